/-
  The program's small pieces of an implied quote: better, other, index, offer, net.
-/
import Derived.Test.YtdeofifidjbolaaImBest
import Derived.Test.YtdeofifidjbolaaGcRd
import Derived.OwnWalk
import Derived.Deep.Cut
namespace Go.Proofs.Ytdeofifidjbolaa
open Go.RowKit
set_option linter.unusedVariables false
set_option linter.unusedSimpArgs false

theorem PBetter_any (s a b : Int) (w : World) (h1 : -9223372036854775808 ≤ s) (h2 : s ≤ 9223372036854775807) : Calls Try.prog 31 #[.int .i64 a, .int .i64 b, .int .i64 s] w fun e w' => e = .returned (.bool (betS s a b)) ∧ w' = w := by
  by_cases hs : s = 1
  · subst hs
    rw [show betS 1 a b = decide (b < a) from rfl]
    go_enter Try.func31, Try.ntmps31
    go_wp2_with fail
    go_ret
    exact ⟨rfl, rfl⟩
  · have d1 : (s == 1) = false := beq_eq_false_iff_ne.2 hs
    have d2 : decide (s = 1) = false := decide_eq_false hs
    rw [show betS s a b = decide (a < b) from if_neg hs]
    replace hs := Lib.hid hs
    go_enter Try.func31, Try.ntmps31
    go_wp2_with fail
    go_ret
    exact ⟨rfl, rfl⟩
theorem POther_any (k : Nat) (w : World) (h : k < 2) : Calls Try.prog 52 #[.int .i64 ((k : Int) + 1)] w fun e w' => e = .returned (.int .i64 (((1 - k : Nat) : Int) + 1)) ∧ w' = w := by
  rcases (show k = 0 ∨ k = 1 by omega) with rfl | rfl
  · show Calls Try.prog 52 #[.int .i64 1] w fun e w' => e = .returned (.int .i64 2) ∧ w' = w
    go_enter Try.func52, Try.ntmps52
    go_wp2_with fail
    go_ret
    exact ⟨rfl, rfl⟩
  · show Calls Try.prog 52 #[.int .i64 2] w fun e w' => e = .returned (.int .i64 1) ∧ w' = w
    go_enter Try.func52, Try.ntmps52
    go_wp2_with fail
    go_ret
    exact ⟨rfl, rfl⟩
theorem PIndex_any (k : Nat) (w : World) (h : k < 2) : Calls Try.prog 67 #[.int .i64 ((k : Int) + 1)] w fun e w' => e = .returned (.int .i64 (k : Int)) ∧ w' = w := by
  rcases (show k = 0 ∨ k = 1 by omega) with rfl | rfl
  · show Calls Try.prog 67 #[.int .i64 1] w fun e w' => e = .returned (.int .i64 0) ∧ w' = w
    go_enter Try.func67, Try.ntmps67
    go_wp2_with fail
    go_ret
    exact ⟨rfl, rfl⟩
  · show Calls Try.prog 67 #[.int .i64 2] w fun e w' => e = .returned (.int .i64 1) ∧ w' = w
    go_enter Try.func67, Try.ntmps67
    go_wp2_with fail
    go_ret
    exact ⟨rfl, rfl⟩
set_option maxRecDepth 100000 in
set_option maxHeartbeats 4000000 in
theorem Offer_any (AT : Option Addr) (nT cT : Nat) (T : List Tp) (a ka : Nat) (w : World) (hT : Hid (HV fTp w AT nT T)) (ha : a < nT) (hka : ka < 2) (hnT : nT ≤ 1000) :
    Calls Try.prog 53 #[.slice AT nT cT, .agg #[.int .i64 (a : Int), .int .i64 ((ka : Int) + 1)]] w fun e w' => e = .returned (.tuple #[.int .i64 ((topAt T (a : Int)).price ((ka : Int) + 1)), .int .i64 ((topAt T (a : Int)).qty ((ka : Int) + 1)), .bool ((topAt T (a : Int)).has ((ka : Int) + 1))]) ∧ Below w.heap.size w w' := by
  have hlT := hT.out.1
  have hxT := topAt_mem (T := T) (i := (a : Int)) (by omega) (by omega)
  rw [Int.toNat_natCast] at hxT
  obtain ⟨x, ex⟩ : ∃ x, topAt T (a : Int) = x := ⟨_, rfl⟩
  rw [ex] at hxT ⊢
  clear ex
  have HI : Hid (∀ W : World, Calls Try.prog 67 #[.int .i64 ((ka : Int) + 1)] W fun e w' => e = .returned (.int .i64 (ka : Int)) ∧ w' = W) := Lib.hid (fun W => PIndex_any ka W hka)
  obtain ⟨g, eg⟩ : ∃ g, w.heap.size = g := ⟨_, rfl⟩
  obtain ⟨W0, eW0⟩ : ∃ W, w.alloc (.cells #[.int .i64 (a : Int), .int .i64 ((ka : Int) + 1)] 34) = W := ⟨_, rfl⟩
  have s0 : W0.heap.size = g + 1 := by rw [← eW0, World.size_alloc, eg]
  have hA0 : W0.heap[g]? = some (.cells #[.int .i64 (a : Int), .int .i64 ((ka : Int) + 1)] 34 (0, 0)) := by rw [← eW0, ← eg]; exact heap_alloc_new w _
  have bl0 : Below g w W0 := by rw [← eW0, ← eg]; exact (Below.refl _ w).alloc (Nat.le_refl _) _
  have T0 : HV fTp W0 AT nT T := hT.out.below (by rw [eg]; exact bl0)
  obtain ⟨tb, off, rfl, x0, x1, x2, x3, x4, x5⟩ := T0.atT hxT
  have hkT : Hid (∀ W, Below W0.heap.size W0 W → HV fTp W (some ⟨tb, off, none⟩) nT T) := Lib.hid (fun W b => T0.below b)
  have hSk : Hid (∀ W, Below W0.heap.size W0 W → (fun W : World => W.cell? ⟨g, 0, none⟩ = some (.int .i64 (a : Int)) ∧ W.cell? ⟨g, 1, none⟩ = some (.int .i64 ((ka : Int) + 1)) ∧ W.cell? ⟨tb, off + a * 6, none⟩ = some (.bool x.h0) ∧ W.cell? ⟨tb, off + a * 6 + 1, none⟩ = some (.bool x.h1) ∧ W.cell? ⟨tb, off + a * 6 + 2, none⟩ = some (.int .i64 x.p0) ∧ W.cell? ⟨tb, off + a * 6 + 3, none⟩ = some (.int .i64 x.p1) ∧ W.cell? ⟨tb, off + a * 6 + 4, none⟩ = some (.int .i64 x.q0) ∧ W.cell? ⟨tb, off + a * 6 + 5, none⟩ = some (.int .i64 x.q1)) W) := Lib.hid (fun W b => by
    obtain ⟨b', off', e', x0, x1, x2, x3, x4, x5⟩ := (hkT.out W b).atT hxT
    injection e' with e'
    injection e' with e1 e2
    subst e1; subst e2
    obtain ⟨l0, l1⟩ := leg_cells ((b.block g (by omega)).trans hA0)
    exact ⟨l0, l1, x0, x1, x2, x3, x4, x5⟩)
  have da : decide ((a : Int) < (nT : Int)) = true := decide_eq_true (by omega)
  have da' : (a : Int) < (nT : Int) := by omega
  clear x0 x1 x2 x3 x4 x5 hxT T0 hT hkT hlT hA0
  obtain ⟨ph, eh⟩ : ∃ v, x.has ((ka : Int) + 1) = v := ⟨_, rfl⟩
  obtain ⟨pu, eu⟩ : ∃ v, x.price ((ka : Int) + 1) = v := ⟨_, rfl⟩
  obtain ⟨pv, ev⟩ : ∃ v, x.qty ((ka : Int) + 1) = v := ⟨_, rfl⟩
  rw [eh, eu, ev]
  obtain ⟨xh0, xh1, xp0, xp1, xq0, xq1⟩ := x
  simp only at hSk
  have z0 : (fun W : World => W.cell? ⟨g, 0, none⟩ = some (.int .i64 (a : Int)) ∧ W.cell? ⟨g, 1, none⟩ = some (.int .i64 ((ka : Int) + 1)) ∧ W.cell? ⟨tb, off + a * 6, none⟩ = some (.bool xh0) ∧ W.cell? ⟨tb, off + a * 6 + 1, none⟩ = some (.bool xh1) ∧ W.cell? ⟨tb, off + a * 6 + 2, none⟩ = some (.int .i64 xp0) ∧ W.cell? ⟨tb, off + a * 6 + 3, none⟩ = some (.int .i64 xp1) ∧ W.cell? ⟨tb, off + a * 6 + 4, none⟩ = some (.int .i64 xq0) ∧ W.cell? ⟨tb, off + a * 6 + 5, none⟩ = some (.int .i64 xq1)) W0.drew := hSk.out W0.drew (Below.refl _ W0).drew
  replace eW0 := Lib.hid eW0
  replace eg := Lib.hid eg
  replace s0 := Lib.hid s0
  replace bl0 := Lib.hid bl0
  go_enter Try.func53, Try.ntmps53
  go_upto_region 1 with (fail)
  rw [eW0.out, eg.out]
  clear eW0
  refine wp_region_held_drew (S := (fun W : World => W.cell? ⟨g, 0, none⟩ = some (.int .i64 (a : Int)) ∧ W.cell? ⟨g, 1, none⟩ = some (.int .i64 ((ka : Int) + 1)) ∧ W.cell? ⟨tb, off + a * 6, none⟩ = some (.bool xh0) ∧ W.cell? ⟨tb, off + a * 6 + 1, none⟩ = some (.bool xh1) ∧ W.cell? ⟨tb, off + a * 6 + 2, none⟩ = some (.int .i64 xp0) ∧ W.cell? ⟨tb, off + a * 6 + 3, none⟩ = some (.int .i64 xp1) ∧ W.cell? ⟨tb, off + a * 6 + 4, none⟩ = some (.int .i64 xq0) ∧ W.cell? ⟨tb, off + a * 6 + 5, none⟩ = some (.int .i64 xq1))) (by kernel_rfl) z0 (fun hHeld => ?_)
  refine wpAnyH_take (i := 0) (v := .slice (some ⟨tb, off, none⟩) nT cT) rfl (by kernel_rfl) (by kernel_rfl) (by kernel_rfl) (fun _ _ _ h => h) (Or.inl ⟨by kernel_rfl, fun W hSw => ?_⟩) (by assumption) ?_
  · (try dsimp only at hSw)
    go_simp
  (try simp only [Act.put, List.setIfInBounds_toArray, List.set_cons_zero, List.set_cons_succ])
  refine wpAnyH_take (i := 1) (v := .pointer (some ⟨g, 0, none⟩)) rfl (by kernel_rfl) (by kernel_rfl) (by kernel_rfl) (fun _ _ _ h => h) (Or.inl ⟨by kernel_rfl, fun W hSw => ?_⟩) (by assumption) ?_
  · (try dsimp only at hSw)
    go_simp
  (try simp only [Act.put, List.setIfInBounds_toArray, List.set_cons_zero, List.set_cons_succ])
  refine wpAnyH_take (i := 2) (v := .int .i64 (a : Int)) rfl (by kernel_rfl) (by kernel_rfl) (by kernel_rfl) (fun _ _ _ h => h) (Or.inl ⟨by kernel_rfl, fun W hSw => ?_⟩) (by assumption) ?_
  · (try dsimp only at hSw)
    go_simp
  (try simp only [Act.put, List.setIfInBounds_toArray, List.set_cons_zero, List.set_cons_succ])
  refine wpAnyH_take (i := 3) (v := .pointer (some ⟨tb, off + a * 6, none⟩)) rfl (by kernel_rfl) (by kernel_rfl) (by kernel_rfl) (fun _ _ _ h => h) (Or.inl ⟨by kernel_rfl, fun W hSw => ?_⟩) (by assumption) ?_
  · (try dsimp only at hSw)
    go_simp
  (try simp only [Act.put, List.setIfInBounds_toArray, List.set_cons_zero, List.set_cons_succ])
  refine wpAnyH_take (i := 4) (v := .agg #[.bool xh0, .bool xh1, .int .i64 xp0, .int .i64 xp1, .int .i64 xq0, .int .i64 xq1]) rfl (by kernel_rfl) (by kernel_rfl) (by kernel_rfl) (fun _ _ _ h => h) (Or.inl ⟨by kernel_rfl, fun W hSw => ?_⟩) (by assumption) ?_
  · (try dsimp only at hSw)
    go_simp
  (try simp only [Act.put, List.setIfInBounds_toArray, List.set_cons_zero, List.set_cons_succ])
  refine wpAnyH_take (i := 5) (v := .pointer (some ⟨g, 1, none⟩)) rfl (by kernel_rfl) (by kernel_rfl) (by kernel_rfl) (fun _ _ _ h => h) (Or.inl ⟨by kernel_rfl, fun W hSw => ?_⟩) (by assumption) ?_
  · (try dsimp only at hSw)
    go_simp
  (try simp only [Act.put, List.setIfInBounds_toArray, List.set_cons_zero, List.set_cons_succ])
  refine wpAnyH_take (i := 6) (v := .int .i64 ((ka : Int) + 1)) rfl (by kernel_rfl) (by kernel_rfl) (by kernel_rfl) (fun _ _ _ h => h) (Or.inl ⟨by kernel_rfl, fun W hSw => ?_⟩) (by assumption) ?_
  · (try dsimp only at hSw)
    go_simp
  (try simp only [Act.put, List.setIfInBounds_toArray, List.set_cons_zero, List.set_cons_succ])
  refine wpAnyH_ready (rs := [7, 8]) (by kernel_rfl) (by simp) ?_
  refine AllReadyH.cons rfl (fun K hK => ?_) (AllReadyH.cons rfl (fun K hK => ?_) AllReadyH.nil)
  · go_simp
    refine (HI.out _).mono ?_
    rintro e ux ⟨rfl, eux⟩
    obtain rfl := eux.symm
    go_wp2_with fail
    refine hK.out _ _ z0 (fun hHeld => ?_)
    clear hK K
    (try simp only [Act.put, List.setIfInBounds_toArray, List.set_cons_zero, List.set_cons_succ])
    refine wpAnyH_ready (rs := [8]) (by kernel_rfl) (by simp) ?_
    refine AllReadyH.cons rfl (fun K hK => ?_) AllReadyH.nil
    go_simp
    have b34 : Below W0.heap.size W0 (W0.alloc (.cells #[.bool false, .bool false, .int .i64 0, .int .i64 0, .int .i64 0, .int .i64 0] 31)).drew := ((Below.refl _ W0).alloc (Nat.le_refl _) _).drew
    have hq4 : (W0.alloc (.cells #[.bool false, .bool false, .int .i64 0, .int .i64 0, .int .i64 0, .int .i64 0] 31)).drew.heap[g + 1]? = some (.cells #[.bool false, .bool false, .int .i64 0, .int .i64 0, .int .i64 0, .int .i64 0] 31 (0, 0)) := by rw [← s0.out]; exact heap_alloc_new W0 _
    obtain ⟨W4, e4⟩ : ∃ W, (W0.alloc (.cells #[.bool false, .bool false, .int .i64 0, .int .i64 0, .int .i64 0, .int .i64 0] 31)).drew = W := ⟨_, rfl⟩
    rw [e4] at b34 hq4 ⊢
    rw [s0.out]
    have z4 : (fun W : World => W.cell? ⟨g, 0, none⟩ = some (.int .i64 (a : Int)) ∧ W.cell? ⟨g, 1, none⟩ = some (.int .i64 ((ka : Int) + 1)) ∧ W.cell? ⟨tb, off + a * 6, none⟩ = some (.bool xh0) ∧ W.cell? ⟨tb, off + a * 6 + 1, none⟩ = some (.bool xh1) ∧ W.cell? ⟨tb, off + a * 6 + 2, none⟩ = some (.int .i64 xp0) ∧ W.cell? ⟨tb, off + a * 6 + 3, none⟩ = some (.int .i64 xp1) ∧ W.cell? ⟨tb, off + a * 6 + 4, none⟩ = some (.int .i64 xq0) ∧ W.cell? ⟨tb, off + a * 6 + 5, none⟩ = some (.int .i64 xq1)) W4 := hSk.out W4 b34
    obtain ⟨f0, f1, f2, f3, f4, f5, c0, c1, c2, c3, c4, c5, hq5⟩ := set6 (.bool xh0) (.bool xh1) (.int .i64 xp0) (.int .i64 xp1) (.int .i64 xq0) (.int .i64 xq1) hq4
    have on5 := only6 W4 (g + 1) (.bool xh0) (.bool xh1) (.int .i64 xp0) (.int .i64 xp1) (.int .i64 xq0) (.int .i64 xq1)
    replace hq5 := Lib.hid hq5
    replace on5 := Lib.hid on5
    replace b34 := Lib.hid b34
    clear e4 hq4
    refine hK.out _ _ z4 (fun hHeld => ?_)
    clear hK K
    (try simp only [Act.put, List.setIfInBounds_toArray, List.set_cons_zero, List.set_cons_succ])
    refine wpAnyH_ready (rs := [9]) (by kernel_rfl) (by simp) ?_
    refine AllReadyH.cons rfl (fun K hK => ?_) AllReadyH.nil
    go_simp
    obtain ⟨W5, e5⟩ : ∃ W, ((((((W4.setCell ⟨g + 1, 0, none⟩ (.bool xh0)).setCell ⟨g + 1, 1, none⟩ (.bool xh1)).setCell ⟨g + 1, 2, none⟩ (.int .i64 xp0)).setCell ⟨g + 1, 3, none⟩ (.int .i64 xp1)).setCell ⟨g + 1, 4, none⟩ (.int .i64 xq0)).setCell ⟨g + 1, 5, none⟩ (.int .i64 xq1)) = W := ⟨_, rfl⟩
    rw [e5] at on5 hq5 ⊢
    have b35 : Below W0.heap.size W0 W5 := ⟨on5.out.os.trans b34.out.os, on5.out.tape.trans b34.out.tape, on5.out.output.trans b34.out.output, Nat.le_trans b34.out.size on5.out.size, fun k hk => (on5.out.block k (by have := b34.out.size; omega) (by have := s0.out; omega)).trans (b34.out.block k hk)⟩
    have z5 : (fun W : World => W.cell? ⟨g, 0, none⟩ = some (.int .i64 (a : Int)) ∧ W.cell? ⟨g, 1, none⟩ = some (.int .i64 ((ka : Int) + 1)) ∧ W.cell? ⟨tb, off + a * 6, none⟩ = some (.bool xh0) ∧ W.cell? ⟨tb, off + a * 6 + 1, none⟩ = some (.bool xh1) ∧ W.cell? ⟨tb, off + a * 6 + 2, none⟩ = some (.int .i64 xp0) ∧ W.cell? ⟨tb, off + a * 6 + 3, none⟩ = some (.int .i64 xp1) ∧ W.cell? ⟨tb, off + a * 6 + 4, none⟩ = some (.int .i64 xq0) ∧ W.cell? ⟨tb, off + a * 6 + 5, none⟩ = some (.int .i64 xq1)) W5 := hSk.out W5 b35
    clear e5 f0 f1 f2 f3 f4 f5 c0 c1 c2 c3 c4 c5 on5 b34
    refine hK.out _ _ z5 (fun hHeld => ?_)
    clear hK K
    (try simp only [Act.put, List.setIfInBounds_toArray, List.set_cons_zero, List.set_cons_succ])
    refine wpAnyH_take (i := 10) (v := .int .i64 (ka : Int)) rfl (by kernel_rfl) (by kernel_rfl) (by kernel_rfl) (fun _ _ _ h => h) (Or.inl ⟨by kernel_rfl, fun W hSw => ?_⟩) (by assumption) ?_
    · (try dsimp only at hSw)
      go_simp
    (try simp only [Act.put, List.setIfInBounds_toArray, List.set_cons_zero, List.set_cons_succ])
    refine wpAnyH_done (by kernel_rfl) ?_ _
    (try simp only [List.getElem_toArray, List.getElem_cons_succ, List.getElem_cons_zero, Act.put, List.setIfInBounds_toArray, List.set_cons_zero, List.set_cons_succ])
    clear hHeld z0 z4 z5 hSk
    obtain ⟨hx, ux, vx⟩ := top_cells (x := ⟨xh0, xh1, xp0, xp1, xq0, xq1⟩) hq5.out hka
    rw [eh] at hx
    rw [eu] at ux
    rw [ev] at vx
    have wka : IntKind.i64.wrap (ka : Int) = (ka : Int) := IntWalk.i64_in _ (by omega)
    have dk2 : ¬ (2 : Int) ≤ (ka : Int) := by omega
    have dk1 : decide ((ka : Int) < 2) = true := decide_eq_true (by omega)
    have dk3 : (ka : Int) < 2 := by omega
    have fin : Hid (Below g w W5.drew) := Lib.hid ((bl0.out.trans (b35.mono (by have := s0.out; omega))).drew)
    clear b35 eh eu ev hq5
    go_upto_region 2 with (fail)
    go_region
    go_wp2_with fail
    (try simp only [Exit.inBlock, Exit.then])
    refine bodyPost_ret (results_tmp3 rfl _ _ _) rfl ?_
    exact ⟨rfl, by rw [eg.out]; exact fin.out⟩
  · go_simp
    have b34 : Below W0.heap.size W0 (W0.alloc (.cells #[.bool false, .bool false, .int .i64 0, .int .i64 0, .int .i64 0, .int .i64 0] 31)).drew := ((Below.refl _ W0).alloc (Nat.le_refl _) _).drew
    have hq4 : (W0.alloc (.cells #[.bool false, .bool false, .int .i64 0, .int .i64 0, .int .i64 0, .int .i64 0] 31)).drew.heap[g + 1]? = some (.cells #[.bool false, .bool false, .int .i64 0, .int .i64 0, .int .i64 0, .int .i64 0] 31 (0, 0)) := by rw [← s0.out]; exact heap_alloc_new W0 _
    obtain ⟨W4, e4⟩ : ∃ W, (W0.alloc (.cells #[.bool false, .bool false, .int .i64 0, .int .i64 0, .int .i64 0, .int .i64 0] 31)).drew = W := ⟨_, rfl⟩
    rw [e4] at b34 hq4 ⊢
    rw [s0.out]
    have z4 : (fun W : World => W.cell? ⟨g, 0, none⟩ = some (.int .i64 (a : Int)) ∧ W.cell? ⟨g, 1, none⟩ = some (.int .i64 ((ka : Int) + 1)) ∧ W.cell? ⟨tb, off + a * 6, none⟩ = some (.bool xh0) ∧ W.cell? ⟨tb, off + a * 6 + 1, none⟩ = some (.bool xh1) ∧ W.cell? ⟨tb, off + a * 6 + 2, none⟩ = some (.int .i64 xp0) ∧ W.cell? ⟨tb, off + a * 6 + 3, none⟩ = some (.int .i64 xp1) ∧ W.cell? ⟨tb, off + a * 6 + 4, none⟩ = some (.int .i64 xq0) ∧ W.cell? ⟨tb, off + a * 6 + 5, none⟩ = some (.int .i64 xq1)) W4 := hSk.out W4 b34
    obtain ⟨f0, f1, f2, f3, f4, f5, c0, c1, c2, c3, c4, c5, hq5⟩ := set6 (.bool xh0) (.bool xh1) (.int .i64 xp0) (.int .i64 xp1) (.int .i64 xq0) (.int .i64 xq1) hq4
    have on5 := only6 W4 (g + 1) (.bool xh0) (.bool xh1) (.int .i64 xp0) (.int .i64 xp1) (.int .i64 xq0) (.int .i64 xq1)
    replace hq5 := Lib.hid hq5
    replace on5 := Lib.hid on5
    replace b34 := Lib.hid b34
    clear e4 hq4
    refine hK.out _ _ z4 (fun hHeld => ?_)
    clear hK K
    (try simp only [Act.put, List.setIfInBounds_toArray, List.set_cons_zero, List.set_cons_succ])
    refine wpAnyH_ready (rs := [7]) (by kernel_rfl) (by simp) ?_
    refine AllReadyH.cons rfl (fun K hK => ?_) AllReadyH.nil
    go_simp
    refine (HI.out _).mono ?_
    rintro e ux ⟨rfl, eux⟩
    obtain rfl := eux.symm
    go_wp2_with fail
    refine hK.out _ _ z4 (fun hHeld => ?_)
    clear hK K
    (try simp only [Act.put, List.setIfInBounds_toArray, List.set_cons_zero, List.set_cons_succ])
    refine wpAnyH_ready (rs := [9]) (by kernel_rfl) (by simp) ?_
    refine AllReadyH.cons rfl (fun K hK => ?_) AllReadyH.nil
    go_simp
    obtain ⟨W5, e5⟩ : ∃ W, ((((((W4.setCell ⟨g + 1, 0, none⟩ (.bool xh0)).setCell ⟨g + 1, 1, none⟩ (.bool xh1)).setCell ⟨g + 1, 2, none⟩ (.int .i64 xp0)).setCell ⟨g + 1, 3, none⟩ (.int .i64 xp1)).setCell ⟨g + 1, 4, none⟩ (.int .i64 xq0)).setCell ⟨g + 1, 5, none⟩ (.int .i64 xq1)) = W := ⟨_, rfl⟩
    rw [e5] at on5 hq5 ⊢
    have b35 : Below W0.heap.size W0 W5 := ⟨on5.out.os.trans b34.out.os, on5.out.tape.trans b34.out.tape, on5.out.output.trans b34.out.output, Nat.le_trans b34.out.size on5.out.size, fun k hk => (on5.out.block k (by have := b34.out.size; omega) (by have := s0.out; omega)).trans (b34.out.block k hk)⟩
    have z5 : (fun W : World => W.cell? ⟨g, 0, none⟩ = some (.int .i64 (a : Int)) ∧ W.cell? ⟨g, 1, none⟩ = some (.int .i64 ((ka : Int) + 1)) ∧ W.cell? ⟨tb, off + a * 6, none⟩ = some (.bool xh0) ∧ W.cell? ⟨tb, off + a * 6 + 1, none⟩ = some (.bool xh1) ∧ W.cell? ⟨tb, off + a * 6 + 2, none⟩ = some (.int .i64 xp0) ∧ W.cell? ⟨tb, off + a * 6 + 3, none⟩ = some (.int .i64 xp1) ∧ W.cell? ⟨tb, off + a * 6 + 4, none⟩ = some (.int .i64 xq0) ∧ W.cell? ⟨tb, off + a * 6 + 5, none⟩ = some (.int .i64 xq1)) W5 := hSk.out W5 b35
    clear e5 f0 f1 f2 f3 f4 f5 c0 c1 c2 c3 c4 c5 on5 b34
    refine hK.out _ _ z5 (fun hHeld => ?_)
    clear hK K
    (try simp only [Act.put, List.setIfInBounds_toArray, List.set_cons_zero, List.set_cons_succ])
    refine wpAnyH_take (i := 10) (v := .int .i64 (ka : Int)) rfl (by kernel_rfl) (by kernel_rfl) (by kernel_rfl) (fun _ _ _ h => h) (Or.inl ⟨by kernel_rfl, fun W hSw => ?_⟩) (by assumption) ?_
    · (try dsimp only at hSw)
      go_simp
    (try simp only [Act.put, List.setIfInBounds_toArray, List.set_cons_zero, List.set_cons_succ])
    refine wpAnyH_done (by kernel_rfl) ?_ _
    (try simp only [List.getElem_toArray, List.getElem_cons_succ, List.getElem_cons_zero, Act.put, List.setIfInBounds_toArray, List.set_cons_zero, List.set_cons_succ])
    clear hHeld z0 z4 z5 hSk
    obtain ⟨hx, ux, vx⟩ := top_cells (x := ⟨xh0, xh1, xp0, xp1, xq0, xq1⟩) hq5.out hka
    rw [eh] at hx
    rw [eu] at ux
    rw [ev] at vx
    have wka : IntKind.i64.wrap (ka : Int) = (ka : Int) := IntWalk.i64_in _ (by omega)
    have dk2 : ¬ (2 : Int) ≤ (ka : Int) := by omega
    have dk1 : decide ((ka : Int) < 2) = true := decide_eq_true (by omega)
    have dk3 : (ka : Int) < 2 := by omega
    have fin : Hid (Below g w W5.drew) := Lib.hid ((bl0.out.trans (b35.mono (by have := s0.out; omega))).drew)
    clear b35 eh eu ev hq5
    go_upto_region 2 with (fail)
    go_region
    go_wp2_with fail
    (try simp only [Exit.inBlock, Exit.then])
    refine bodyPost_ret (results_tmp3 rfl _ _ _) rfl ?_
    exact ⟨rfl, by rw [eg.out]; exact fin.out⟩
/-- What two legs' prices are together: the sum where both stand on one side, else the difference. -/
def netV (sa sb side u v : Int) : Int := if sa = sb then u + v else if sa = side then u - v else v - u
set_option maxRecDepth 100000 in
set_option maxHeartbeats 4000000 in
theorem Net_any (a sa b sb u v side : Int) (w : World) (hu : I64 u) (hv : I64 v) :
    Calls Try.prog 54 #[.agg #[.int .i64 a, .int .i64 sa, .int .i64 b, .int .i64 sb], .int .i64 u, .int .i64 v, .int .i64 side] w fun e w' => e = .returned (.tuple #[.int .i64 (pick (netV sa sb side u v)), .bool (fitB (netV sa sb side u v))]) ∧ Below w.heap.size w w' := by
  obtain ⟨g, eg⟩ : ∃ g, w.heap.size = g := ⟨_, rfl⟩
  obtain ⟨W0, eW0⟩ : ∃ W, w.alloc (.cells #[.int .i64 a, .int .i64 sa, .int .i64 b, .int .i64 sb] 35) = W := ⟨_, rfl⟩
  have hA0 : W0.heap[g]? = some (.cells #[.int .i64 a, .int .i64 sa, .int .i64 b, .int .i64 sb] 35 (0, 0)) := by rw [← eW0, ← eg]; exact heap_alloc_new w _
  have bl0 : Hid (Below g w W0) := Lib.hid (by rw [← eW0, ← eg]; exact (Below.refl _ w).alloc (Nat.le_refl _) _)
  have y1 : W0.cell? ⟨g, 1, none⟩ = some (.int .i64 sa) := by rw [Lib.cell_of_heap hA0]; rfl
  have y3 : W0.cell? ⟨g, 3, none⟩ = some (.int .i64 sb) := by rw [Lib.cell_of_heap hA0]; rfl
  have HA : Hid (Calls Try.prog 68 #[.int .i64 u, .int .i64 v] W0 _) := Lib.hid (Add_any u v W0 hu.1 hu.2 hv.1 hv.2)
  have HS : Hid (Calls Try.prog 69 #[.int .i64 u, .int .i64 v] W0 _) := Lib.hid (Sub_any u v W0 hu.1 hu.2 hv.1 hv.2)
  have HR : Hid (Calls Try.prog 69 #[.int .i64 v, .int .i64 u] W0 _) := Lib.hid (Sub_any v u W0 hv.1 hv.2 hu.1 hu.2)
  replace eW0 := Lib.hid eW0
  replace eg := Lib.hid eg
  clear hA0 hu hv
  by_cases hab : sa = sb
  · subst hab
    rw [show netV sa sa side u v = u + v from if_pos rfl]
    have d1 : (sa == sa) = true := by simp
    go_enter Try.func54, Try.ntmps54
    go_upto_region 1 with (fail)
    rw [eW0.out, eg.out]
    go_wp2_with fail
    refine HA.out.mono ?_
    rintro e w' ⟨rfl, rfl⟩
    go_wp2_with fail
    go_ret2
    exact ⟨rfl, by rw [eg.out]; exact bl0.out⟩
  · have d1 : (sa == sb) = false := beq_eq_false_iff_ne.2 hab
    have d2 : decide (sa = sb) = false := decide_eq_false hab
    by_cases hs : sa = side
    · rw [show netV sa sb side u v = u - v by unfold netV; rw [if_neg hab, if_pos hs]]
      have d3 : (sa == side) = true := by rw [hs]; simp
      have d4 : decide (sa = side) = true := decide_eq_true hs
      replace hs := Lib.hid hs
      replace hab := Lib.hid hab
      go_enter Try.func54, Try.ntmps54
      go_upto_region 1 with (fail)
      rw [eW0.out, eg.out]
      go_wp2_with fail
      refine HS.out.mono ?_
      rintro e w' ⟨rfl, rfl⟩
      go_wp2_with fail
      go_ret2
      exact ⟨rfl, by rw [eg.out]; exact bl0.out⟩
    · rw [show netV sa sb side u v = v - u by unfold netV; rw [if_neg hab, if_neg hs]]
      have d3 : (sa == side) = false := beq_eq_false_iff_ne.2 hs
      have d4 : decide (sa = side) = false := decide_eq_false hs
      replace hs := Lib.hid hs
      replace hab := Lib.hid hab
      go_enter Try.func54, Try.ntmps54
      go_upto_region 1 with (fail)
      rw [eW0.out, eg.out]
      go_wp2_with fail
      refine HR.out.mono ?_
      rintro e w' ⟨rfl, rfl⟩
      go_wp2_with fail
      go_ret2
      exact ⟨rfl, by rw [eg.out]; exact bl0.out⟩
end Go.Proofs.Ytdeofifidjbolaa
