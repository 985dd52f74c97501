/-
  The walk of the law LegsRules.
-/
import Derived.Test.YtpfgmebajefjaaaLeTells
import Derived.Deep.QuietTactic
import Derived.BigQuiet
namespace Go.Proofs.Ytpfgmebajefjaaa
open Go.RowKit
set_option linter.unusedVariables false
set_option linter.unusedSimpArgs false

set_option maxRecDepth 100000 in
set_option maxHeartbeats 8000000 in
theorem LRules_walk (p : PD) (inst steps : Int) (w : World) (h : Hid (p.Fit w)) (i1 : -9223372036854775808 ≤ inst) (i2 : inst ≤ 9223372036854775807) (s1 : -9223372036854775808 ≤ steps) (s2 : steps ≤ 9223372036854775807) :
    Calls Try.prog 5 #[p.val, .int .i64 inst, .int .i64 steps] w fun e w' => e = .returned (.bool true) ∧ Below w.heap.size w w' := by
  have HK : Hid (∀ W, Below w.heap.size w W → Calls Try.prog 12 #[p.val] W fun e w' => ∃ P : PD, e = .returned P.val ∧ (∃ T K, P.Keep15 T K) ∧ P.Ok w' ∧ Below W.heap.size W w') := Lib.hid (fun W b => KProd15 p W (Lib.hid (h.out.below b)))
  clear h
  obtain ⟨code, A1, n1, c1, tick, low, high, wide, rule, top, least, part, A2, n2, c2, Q, R⟩ := p
  replace HK : Hid (∀ W, Below w.heap.size w W → Calls Try.prog 12 #[.agg #[.string (str code), .slice A1 n1 c1, .int .i64 tick, .int .i64 low, .int .i64 high, .int .i64 wide, .int .i64 rule, .int .i64 top, .int .i64 least, .int .i64 part, .slice A2 n2 c2]] W fun e w' => ∃ P : PD, e = .returned P.val ∧ (∃ T K, P.Keep15 T K) ∧ P.Ok w' ∧ Below W.heap.size W w') := HK
  show Calls Try.prog 5 #[.agg #[.string (str code), .slice A1 n1 c1, .int .i64 tick, .int .i64 low, .int .i64 high, .int .i64 wide, .int .i64 rule, .int .i64 top, .int .i64 least, .int .i64 part, .slice A2 n2 c2], .int .i64 inst, .int .i64 steps] w _
  obtain ⟨W0, eW0⟩ : ∃ W0, w.alloc (.cells #[.string (str code), .slice A1 n1 c1, .int .i64 tick, .int .i64 low, .int .i64 high, .int .i64 wide, .int .i64 rule, .int .i64 top, .int .i64 least, .int .i64 part, .slice A2 n2 c2] 25) = W0 := ⟨_, rfl⟩
  obtain ⟨pb, epb⟩ : ∃ pb, w.heap.size = pb := ⟨_, rfl⟩
  have hblk0 : Hid (W0.heap[pb]? = some (.cells #[.string (str code), .slice A1 n1 c1, .int .i64 tick, .int .i64 low, .int .i64 high, .int .i64 wide, .int .i64 rule, .int .i64 top, .int .i64 least, .int .i64 part, .slice A2 n2 c2] 25 (0, 0))) := Lib.hid (by rw [← eW0, ← epb]; exact heap_alloc_new w _)
  have hB0 : Hid (Below w.heap.size w W0) := Lib.hid (by rw [← eW0]; exact (Below.refl _ w).alloc (Nat.le_refl _) _)
  replace eW0 := Lib.hid eW0
  replace epb := Lib.hid epb
  go_enter Try.func5, Try.ntmps5
  obtain ⟨k0, k1, k2, k3, k4, k5, k6, k7, k8, k9, k10⟩ := row11 hblk0.out
  go_upto_region 1 with (fail)
  rw [eW0.out, epb.out]
  clear eW0
  go_wp2_with fail
  refine (HK.out W0 hB0.out).mono ?_
  clear HK
  rintro e w3 ⟨P, rfl, ⟨TT, TK0, pk⟩, pok, b3⟩
  have hB3 := Lib.hid (below_top' hB0.out b3)
  clear k0 k1 k2 k3 k4 k5 k6 k7 k8 k9 k10 hblk0 hB0 b3 epb
  obtain ⟨codem, A1m, n1m, c1m, tickm, lowm, highm, widem, rulem, topm, leastm, partm, A2m, n2m, c2m, Qm, Rm⟩ := P
  rw [show PD.val ⟨codem, A1m, n1m, c1m, tickm, lowm, highm, widem, rulem, topm, leastm, partm, A2m, n2m, c2m, Qm, Rm⟩ = .agg #[.string (str codem), .slice A1m n1m c1m, .int .i64 tickm, .int .i64 lowm, .int .i64 highm, .int .i64 widem, .int .i64 rulem, .int .i64 topm, .int .i64 leastm, .int .i64 partm, .slice A2m n2m c2m] from rfl]
  obtain ⟨mb, emb⟩ : ∃ x, w3.heap.size = x := ⟨_, rfl⟩
  obtain ⟨W4, eW4⟩ : ∃ W, w3.alloc (.cells #[.string (str codem), .slice A1m n1m c1m, .int .i64 tickm, .int .i64 lowm, .int .i64 highm, .int .i64 widem, .int .i64 rulem, .int .i64 topm, .int .i64 leastm, .int .i64 partm, .slice A2m n2m c2m] 25) = W := ⟨_, rfl⟩
  have b34 : Below w3.heap.size w3 W4 := by rw [← eW4]; exact (Below.refl _ w3).alloc (Nat.le_refl _) _
  have hmb : W4.heap[mb]? = some (.cells #[.string (str codem), .slice A1m n1m c1m, .int .i64 tickm, .int .i64 lowm, .int .i64 highm, .int .i64 widem, .int .i64 rulem, .int .i64 topm, .int .i64 leastm, .int .i64 partm, .slice A2m n2m c2m] 25 (0, 0)) := by rw [← eW4, ← emb]; exact heap_alloc_new w3 _
  have hm4 : Hid (∀ W, Below W4.heap.size W4 W → W.heap[mb]? = some (.cells #[.string (str codem), .slice A1m n1m c1m, .int .i64 tickm, .int .i64 lowm, .int .i64 highm, .int .i64 widem, .int .i64 rulem, .int .i64 topm, .int .i64 leastm, .int .i64 partm, .slice A2m n2m c2m] 25 (0, 0))) := Lib.hid (fun W b => pd_blk' hmb b)
  have hB4 := Lib.hid (below_top' hB3.out b34)
  have hOk4 : Hid (∀ W, Below W4.heap.size W4 W → PD.Ok ⟨codem, A1m, n1m, c1m, tickm, lowm, highm, widem, rulem, topm, leastm, partm, A2m, n2m, c2m, Qm, Rm⟩ W) := Lib.hid (fun W b => (pok.below b34).below b)
  obtain ⟨TK, rfl⟩ : ∃ k : Nat, TK0 = (k : Int) := ⟨TK0.toNat, by have := pk.self.K1; omega⟩
  have hk := Lib.hid pk
  replace eW4 := Lib.hid eW4
  replace emb := Lib.hid emb
  clear pk pok b34 hmb hB3
  obtain ⟨n1', n2', n3', n4', n5', n6'⟩ := hk.out.self.cnt
  have n7' := hk.out.self.na
  have n8' := hk.out.self.nb
  have n9' := hk.out.self.T1
  have n10' := hk.out.self.T2
  have n11' := hk.out.self.K1
  have n12' := hk.out.self.K2
  have n13' : tickm = TT := hk.out.self.tick
  subst n13'
  simp only at n1' n2' n3' n4' n5' n6' n7' n8'
  obtain ⟨M, hM⟩ : ∃ M, n1m * (n1m - 1) / 2 = M := ⟨_, rfl⟩
  rw [hM] at n1' n2' n3' n4'
  obtain ⟨Z, hZ⟩ : ∃ Z, (n1m : Int) * ((n1m : Int) - 1) = Z := ⟨_, rfl⟩
  rw [hZ] at n4' n5' n6'
  have n14' : widem = tickm * (TK : Int) := hk.out.self.wide
  have hdv : widem.tdiv tickm = (TK : Int) := by rw [n14']; exact Int.mul_tdiv_cancel_left _ (by omega)
  have hdv1 : IntKind.i64.wrap (widem.tdiv tickm) = (TK : Int) := by rw [hdv]; exact wrap_in (by omega) (by omega)
  have w5 := withinN_le inst (M - 1)
  have HW5 : Hid (∀ W, _) := Lib.hid (fun W => Within_any inst (M - 1) W (by omega) i1 i2)
  obtain ⟨kk, ekk⟩ : ∃ k, withinN inst (M - 1) = k := ⟨_, rfl⟩
  rw [ekk] at HW5 w5
  clear ekk
  obtain ⟨i, j, hlg, hi, hj⟩ := hk.out.self.spread (k := kk) (by show kk < n1m * (n1m - 1) / 2; rw [hM]; omega)
  replace hlg : legsL ⟨codem, A1m, n1m, c1m, tickm, lowm, highm, widem, rulem, topm, leastm, partm, A2m, n2m, c2m, Qm, Rm⟩ ((n1m : Int) + (kk : Int)) = ((i : Int), (j : Int), true) := hlg
  replace hi : i < n1m := hi
  replace hj : j < n1m := hj
  have w6 := withinN_le steps (2 * TK)
  have HW6 : Hid (∀ W : World, Calls Try.prog 13 #[.int .i64 steps, .int .i64 0, .int .i64 (2 * (TK : Int))] W fun e w' => e = .returned (.int .i64 (withinN steps (2 * TK) : Int)) ∧ w' = W) := Lib.hid (fun W => by have := Within_any steps (2 * TK) W (by omega) s1 s2; rw [show ((2 * TK : Nat) : Int) = 2 * (TK : Int) by omega] at this; exact this)
  obtain ⟨ks, eks⟩ : ∃ k, withinN steps (2 * TK) = k := ⟨_, rfl⟩
  rw [eks] at HW6 w6
  clear eks
  obtain ⟨mm, hmm⟩ : ∃ m, (ks : Int) - (TK : Int) = m := ⟨_, rfl⟩
  obtain ⟨Y, hY⟩ : ∃ Y, tickm * mm = Y := ⟨_, rfl⟩
  obtain ⟨a, b, e1, e2, e3, e4, a1, a2, b1, b2, y1, y2, r1, r2, e5⟩ := rules15 hk.out hlg hi hj (m := mm) (by omega) (by omega)
  rw [hY] at e1 e2 e5 y1 y2
  simp only at e5 r1 r2
  have HL : Hid (∀ W, Below W4.heap.size W4 W → Calls Try.prog 14 #[.agg #[.string (str codem), .slice A1m n1m c1m, .int .i64 tickm, .int .i64 lowm, .int .i64 highm, .int .i64 widem, .int .i64 rulem, .int .i64 topm, .int .i64 leastm, .int .i64 partm, .slice A2m n2m c2m], .int .i64 ((n1m : Int) + (kk : Int))] W fun e w' => e = .returned (.tuple #[.int .i64 (i : Int), .int .i64 (j : Int), .bool true]) ∧ Below W.heap.size W w') := Lib.hid (fun W g => by have := PLegs_any ⟨codem, A1m, n1m, c1m, tickm, lowm, highm, widem, rulem, topm, leastm, partm, A2m, n2m, c2m, Qm, Rm⟩ ((n1m : Int) + (kk : Int)) W (Lib.hid (hOk4.out W g)) ⟨by omega, by omega⟩; rw [hlg] at this; exact this)
  have HP : Hid (∀ W, Below W4.heap.size W4 W → Calls Try.prog 9 #[.agg #[.string (str codem), .slice A1m n1m c1m, .int .i64 tickm, .int .i64 lowm, .int .i64 highm, .int .i64 widem, .int .i64 rulem, .int .i64 topm, .int .i64 leastm, .int .i64 partm, .slice A2m n2m c2m], .int .i64 ((n1m : Int) + (kk : Int)), .int .i64 Y] W fun e w' => e = .returned (.tuple #[.int .i64 a, .int .i64 b, .int .i64 0]) ∧ Below W.heap.size W w') := Lib.hid (fun W g => by have := PPrices_any ⟨codem, A1m, n1m, c1m, tickm, lowm, highm, widem, rulem, topm, leastm, partm, A2m, n2m, c2m, Qm, Rm⟩ ((n1m : Int) + (kk : Int)) Y W (Lib.hid (hOk4.out W g)) ⟨by omega, by omega⟩ ⟨by omega, by omega⟩; rw [e1] at this; exact this)
  have HA : Hid (∀ W, Below W4.heap.size W4 W → Calls Try.prog 15 #[.agg #[.string (str codem), .slice A1m n1m c1m, .int .i64 tickm, .int .i64 lowm, .int .i64 highm, .int .i64 widem, .int .i64 rulem, .int .i64 topm, .int .i64 leastm, .int .i64 partm, .slice A2m n2m c2m], .int .i64 (i : Int), .int .i64 a] W fun e w' => e = .returned (.int .i64 0) ∧ Below W.heap.size W w') := Lib.hid (fun W g => by have := PPrice_any ⟨codem, A1m, n1m, c1m, tickm, lowm, highm, widem, rulem, topm, leastm, partm, A2m, n2m, c2m, Qm, Rm⟩ (i : Int) a W (Lib.hid (hOk4.out W g)) ⟨by omega, by omega⟩ ⟨by omega, by omega⟩; rw [e3] at this; exact this)
  have HB : Hid (∀ W, Below W4.heap.size W4 W → Calls Try.prog 15 #[.agg #[.string (str codem), .slice A1m n1m c1m, .int .i64 tickm, .int .i64 lowm, .int .i64 highm, .int .i64 widem, .int .i64 rulem, .int .i64 topm, .int .i64 leastm, .int .i64 partm, .slice A2m n2m c2m], .int .i64 (j : Int), .int .i64 b] W fun e w' => e = .returned (.int .i64 0) ∧ Below W.heap.size W w') := Lib.hid (fun W g => by have := PPrice_any ⟨codem, A1m, n1m, c1m, tickm, lowm, highm, widem, rulem, topm, leastm, partm, A2m, n2m, c2m, Qm, Rm⟩ (j : Int) b W (Lib.hid (hOk4.out W g)) ⟨by omega, by omega⟩ ⟨by omega, by omega⟩; rw [e4] at this; exact this)
  obtain ⟨sb, so, rfl, -, -⟩ := (hOk4.out W4 (Below.refl _ _)).settle j (by have : n2m = n1m := hk.out.self.n2; show j < n2m; omega)
  have hn2 := Lib.hid (show n2m = n1m from hk.out.self.n2)
  have HN : Hid (∀ W, Below W4.heap.size W4 W → W.cell? ⟨sb, so + j, none⟩ = some (.int .i64 (Rm j))) := Lib.hid (fun W b => by
    obtain ⟨b', o', e', c', -⟩ := (hOk4.out W b).settle j (by show j < n2m; have := hn2.out; omega)
    injection e' with e'
    injection e' with e1 e2
    subst e1; subst e2
    exact c')
  obtain ⟨pr, hpr⟩ : ∃ v, priceL ⟨codem, A1m, n1m, c1m, tickm, lowm, highm, widem, rulem, topm, leastm, partm, some ⟨sb, so, none⟩, n2m, c2m, Qm, Rm⟩ (i : Int) (Rm j + Y) = v := ⟨_, rfl⟩
  have HC : Hid (∀ W, Below W4.heap.size W4 W → Calls Try.prog 15 #[.agg #[.string (str codem), .slice A1m n1m c1m, .int .i64 tickm, .int .i64 lowm, .int .i64 highm, .int .i64 widem, .int .i64 rulem, .int .i64 topm, .int .i64 leastm, .int .i64 partm, .slice (some ⟨sb, so, none⟩) n2m c2m], .int .i64 (i : Int), .int .i64 (Rm j + Y)] W fun e w' => e = .returned (.int .i64 (pr : Nat)) ∧ Below W.heap.size W w') := Lib.hid (fun W g => by have := PPrice_any _ (i : Int) (Rm j + Y) W (Lib.hid (hOk4.out W g)) ⟨by omega, by omega⟩ ⟨by omega, by omega⟩; rw [hpr] at this; exact this)
  rw [hpr] at e5
  obtain ⟨rj, hrj⟩ : ∃ v, Rm j = v := ⟨_, rfl⟩
  rw [hrj] at e5 r1 r2 HN HC
  clear hpr hrj e1 e3 e4
  have wY : IntKind.i64.wrap (tickm * mm) = Y := by rw [hY]; exact wrap_in (by omega) (by omega)
  have wY2 : wrap64 (tickm * mm) = Y := by rw [hY]; exact IntWalk.wrap64_in _ ⟨by omega, by omega⟩
  have wY3 : IntKind.i64.wrap Y = Y := wrap_in (by omega) (by omega)
  have ht0 : tickm ≠ 0 := by omega
  have wTK : IntKind.i64.wrap (TK : Int) = (TK : Int) := wrap_in (by omega) (by omega)
  have wTK2 : IntKind.i64.wrap (2 * (TK : Int)) = 2 * (TK : Int) := wrap_in (by omega) (by omega)
  have wm : IntKind.i64.wrap ((ks : Int) - (TK : Int)) = mm := by rw [hmm]; exact wrap_in (by omega) (by omega)
  have wm2 : wrap64 ((ks : Int) - (TK : Int)) = mm := by rw [hmm]; exact IntWalk.wrap64_in _ ⟨by omega, by omega⟩
  have wm3 : IntKind.i64.wrap mm = mm := wrap_in (by omega) (by omega)
  clear hk n14'
  obtain ⟨k0, k1, k2, k3, k4, k5, k6, k7, k8, k9, k10⟩ := row11 (hm4.out W4 (Below.refl _ _))
  go_upto_region 2 with (fail)
  rw [eW4.out, emb.out]
  clear eW4 emb
  go_upto_region 3 with (fail)
  go_wp2_with fail
  refine (HW5.out _).mono ?_
  rintro e wx ⟨rfl, rfl⟩
  clear HW5
  go_upto_region 4 with (fail)
  go_wp2_with fail
  refine (HL.out wx (Below.refl _ _)).mono ?_
  have Bwx := Lib.hid (Below.refl wx.heap.size wx)
  rintro e wl ⟨rfl, bb⟩
  have Bwl := Lib.hid (below_top' Bwx.out bb)
  clear k0 k1 k2 k3 k4 k5 k6 k7 k8 k9 k10 bb
  obtain ⟨k0, k1, k2, k3, k4, k5, k6, k7, k8, k9, k10⟩ := row11 (hm4.out wl Bwl.out)
  go_upto_region 5 with (fail)
  have z0 : (fun W : World => (W.cell? ⟨mb, 0, none⟩ = some (.string (str codem)) ∧ W.cell? ⟨mb, 1, none⟩ = some (.slice A1m n1m c1m) ∧ W.cell? ⟨mb, 2, none⟩ = some (.int .i64 tickm) ∧ W.cell? ⟨mb, 3, none⟩ = some (.int .i64 lowm) ∧ W.cell? ⟨mb, 4, none⟩ = some (.int .i64 highm) ∧ W.cell? ⟨mb, 5, none⟩ = some (.int .i64 widem) ∧ W.cell? ⟨mb, 6, none⟩ = some (.int .i64 rulem) ∧ W.cell? ⟨mb, 7, none⟩ = some (.int .i64 topm) ∧ W.cell? ⟨mb, 8, none⟩ = some (.int .i64 leastm) ∧ W.cell? ⟨mb, 9, none⟩ = some (.int .i64 partm) ∧ W.cell? ⟨mb, 10, none⟩ = some (.slice (some ⟨sb, so, none⟩) n2m c2m)) ∧ Below wx.heap.size wx W) wl.drew := ⟨⟨k0, k1, k2, k3, k4, k5, k6, k7, k8, k9, k10⟩, Bwl.out.drew⟩
  clear k0 k1 k2 k3 k4 k5 k6 k7 k8 k9 k10
  refine wp_region_held_drew (S := (fun W : World => (W.cell? ⟨mb, 0, none⟩ = some (.string (str codem)) ∧ W.cell? ⟨mb, 1, none⟩ = some (.slice A1m n1m c1m) ∧ W.cell? ⟨mb, 2, none⟩ = some (.int .i64 tickm) ∧ W.cell? ⟨mb, 3, none⟩ = some (.int .i64 lowm) ∧ W.cell? ⟨mb, 4, none⟩ = some (.int .i64 highm) ∧ W.cell? ⟨mb, 5, none⟩ = some (.int .i64 widem) ∧ W.cell? ⟨mb, 6, none⟩ = some (.int .i64 rulem) ∧ W.cell? ⟨mb, 7, none⟩ = some (.int .i64 topm) ∧ W.cell? ⟨mb, 8, none⟩ = some (.int .i64 leastm) ∧ W.cell? ⟨mb, 9, none⟩ = some (.int .i64 partm) ∧ W.cell? ⟨mb, 10, none⟩ = some (.slice (some ⟨sb, so, none⟩) n2m c2m)) ∧ Below wx.heap.size wx W)) (by kernel_rfl) z0 (fun hHeld => ?_)
  refine wpAnyH_take (i := 0) (v := .pointer (some ⟨mb, 2, none⟩)) rfl (by kernel_rfl) (by kernel_rfl) (by kernel_rfl) (fun _ _ _ h => h) (Or.inl ⟨by kernel_rfl, fun W hSw => ?_⟩) (by assumption) ?_
  · (try dsimp only at hSw)
    go_simp
  (try simp only [Act.put, List.setIfInBounds_toArray, List.set_cons_zero, List.set_cons_succ])
  refine wpAnyH_take (i := 1) (v := .int .i64 tickm) rfl (by kernel_rfl) (by kernel_rfl) (by kernel_rfl) (fun _ _ _ h => h) (Or.inl ⟨by kernel_rfl, fun W hSw => ?_⟩) (by assumption) ?_
  · (try dsimp only at hSw)
    go_simp
  (try simp only [Act.put, List.setIfInBounds_toArray, List.set_cons_zero, List.set_cons_succ])
  refine wpAnyH_take (i := 2) (v := .int .i64 steps) rfl (by kernel_rfl) (by kernel_rfl) (by kernel_rfl) (fun _ _ _ h => h) (Or.inl ⟨by kernel_rfl, fun W hSw => ?_⟩) (by assumption) ?_
  · (try dsimp only at hSw)
    go_simp
  (try simp only [Act.put, List.setIfInBounds_toArray, List.set_cons_zero, List.set_cons_succ])
  refine wpAnyH_take (i := 3) (v := .pointer (some ⟨mb, 5, none⟩)) rfl (by kernel_rfl) (by kernel_rfl) (by kernel_rfl) (fun _ _ _ h => h) (Or.inl ⟨by kernel_rfl, fun W hSw => ?_⟩) (by assumption) ?_
  · (try dsimp only at hSw)
    go_simp
  (try simp only [Act.put, List.setIfInBounds_toArray, List.set_cons_zero, List.set_cons_succ])
  refine wpAnyH_take (i := 4) (v := .int .i64 widem) rfl (by kernel_rfl) (by kernel_rfl) (by kernel_rfl) (fun _ _ _ h => h) (Or.inl ⟨by kernel_rfl, fun W hSw => ?_⟩) (by assumption) ?_
  · (try dsimp only at hSw)
    go_simp
  (try simp only [Act.put, List.setIfInBounds_toArray, List.set_cons_zero, List.set_cons_succ])
  refine wpAnyH_take (i := 5) (v := .pointer (some ⟨mb, 2, none⟩)) rfl (by kernel_rfl) (by kernel_rfl) (by kernel_rfl) (fun _ _ _ h => h) (Or.inl ⟨by kernel_rfl, fun W hSw => ?_⟩) (by assumption) ?_
  · (try dsimp only at hSw)
    go_simp
  (try simp only [Act.put, List.setIfInBounds_toArray, List.set_cons_zero, List.set_cons_succ])
  refine wpAnyH_take (i := 6) (v := .int .i64 tickm) rfl (by kernel_rfl) (by kernel_rfl) (by kernel_rfl) (fun _ _ _ h => h) (Or.inl ⟨by kernel_rfl, fun W hSw => ?_⟩) (by assumption) ?_
  · (try dsimp only at hSw)
    go_simp
  (try simp only [Act.put, List.setIfInBounds_toArray, List.set_cons_zero, List.set_cons_succ])
  refine wpAnyH_take (i := 7) (v := .int .i64 (TK : Int)) rfl (by kernel_rfl) (by kernel_rfl) (by kernel_rfl) (fun _ _ _ h => h) (Or.inl ⟨by kernel_rfl, fun W hSw => ?_⟩) (by assumption) ?_
  · (try dsimp only at hSw)
    go_simp
  (try simp only [Act.put, List.setIfInBounds_toArray, List.set_cons_zero, List.set_cons_succ])
  refine wpAnyH_take (i := 8) (v := .int .i64 (2 * (TK : Int))) rfl (by kernel_rfl) (by kernel_rfl) (by kernel_rfl) (fun _ _ _ h => h) (Or.inl ⟨by kernel_rfl, fun W hSw => ?_⟩) (by assumption) ?_
  · (try dsimp only at hSw)
    go_simp
  (try simp only [Act.put, List.setIfInBounds_toArray, List.set_cons_zero, List.set_cons_succ])
  refine wpAnyH_take (i := 10) (v := .pointer (some ⟨mb, 5, none⟩)) rfl (by kernel_rfl) (by kernel_rfl) (by kernel_rfl) (fun _ _ _ h => h) (Or.inl ⟨by kernel_rfl, fun W hSw => ?_⟩) (by assumption) ?_
  · (try dsimp only at hSw)
    go_simp
  (try simp only [Act.put, List.setIfInBounds_toArray, List.set_cons_zero, List.set_cons_succ])
  refine wpAnyH_take (i := 11) (v := .int .i64 widem) rfl (by kernel_rfl) (by kernel_rfl) (by kernel_rfl) (fun _ _ _ h => h) (Or.inl ⟨by kernel_rfl, fun W hSw => ?_⟩) (by assumption) ?_
  · (try dsimp only at hSw)
    go_simp
  (try simp only [Act.put, List.setIfInBounds_toArray, List.set_cons_zero, List.set_cons_succ])
  refine wpAnyH_take (i := 12) (v := .pointer (some ⟨mb, 2, none⟩)) rfl (by kernel_rfl) (by kernel_rfl) (by kernel_rfl) (fun _ _ _ h => h) (Or.inl ⟨by kernel_rfl, fun W hSw => ?_⟩) (by assumption) ?_
  · (try dsimp only at hSw)
    go_simp
  (try simp only [Act.put, List.setIfInBounds_toArray, List.set_cons_zero, List.set_cons_succ])
  refine wpAnyH_take (i := 13) (v := .int .i64 tickm) rfl (by kernel_rfl) (by kernel_rfl) (by kernel_rfl) (fun _ _ _ h => h) (Or.inl ⟨by kernel_rfl, fun W hSw => ?_⟩) (by assumption) ?_
  · (try dsimp only at hSw)
    go_simp
  (try simp only [Act.put, List.setIfInBounds_toArray, List.set_cons_zero, List.set_cons_succ])
  refine wpAnyH_take (i := 14) (v := .int .i64 (TK : Int)) rfl (by kernel_rfl) (by kernel_rfl) (by kernel_rfl) (fun _ _ _ h => h) (Or.inl ⟨by kernel_rfl, fun W hSw => ?_⟩) (by assumption) ?_
  · (try dsimp only at hSw)
    go_simp
  (try simp only [Act.put, List.setIfInBounds_toArray, List.set_cons_zero, List.set_cons_succ])
  refine wpAnyH_ready (rs := [9]) (by kernel_rfl) (by simp) ?_
  refine AllReadyH.cons rfl (fun K hK => ?_) AllReadyH.nil
  go_simp
  refine (HW6.out _).mono ?_
  rintro e ux ⟨rfl, eux⟩
  obtain rfl := eux.symm
  go_wp2_with fail
  refine hK.out _ _ z0 (fun hHeld => ?_)
  clear hK K
  (try simp only [Act.put, List.setIfInBounds_toArray, List.set_cons_zero, List.set_cons_succ])
  refine wpAnyH_take (i := 15) (v := .int .i64 mm) rfl (by kernel_rfl) (by kernel_rfl) (by kernel_rfl) (fun _ _ _ h => h) (Or.inl ⟨by kernel_rfl, fun W hSw => ?_⟩) (by assumption) ?_
  · (try dsimp only at hSw)
    go_simp
  (try simp only [Act.put, List.setIfInBounds_toArray, List.set_cons_zero, List.set_cons_succ])
  refine wpAnyH_take (i := 16) (v := .int .i64 Y) rfl (by kernel_rfl) (by kernel_rfl) (by kernel_rfl) (fun _ _ _ h => h) (Or.inl ⟨by kernel_rfl, fun W hSw => ?_⟩) (by assumption) ?_
  · (try dsimp only at hSw)
    go_simp
  (try simp only [Act.put, List.setIfInBounds_toArray, List.set_cons_zero, List.set_cons_succ])
  refine wpAnyH_take (i := 17) (v := .int .i64 Y) rfl (by kernel_rfl) (by kernel_rfl) (by kernel_rfl) (fun _ _ _ h => h) (Or.inl ⟨by kernel_rfl, fun W hSw => ?_⟩) (by assumption) ?_
  · (try dsimp only at hSw)
    go_simp
  (try simp only [Act.put, List.setIfInBounds_toArray, List.set_cons_zero, List.set_cons_succ])
  refine wpAnyH_done (by kernel_rfl) ?_ _
  (try simp only [List.getElem_toArray, List.getElem_cons_succ, List.getElem_cons_zero, Act.put, List.setIfInBounds_toArray, List.set_cons_zero, List.set_cons_succ])
  clear hHeld z0 HW6
  have By := Lib.hid Bwl.out.drew
  obtain ⟨wy, ewy⟩ : ∃ W, wl.drew = W := ⟨_, rfl⟩
  rw [ewy] at By ⊢
  clear ewy Bwl
  obtain ⟨k0, k1, k2, k3, k4, k5, k6, k7, k8, k9, k10⟩ := row11 (hm4.out wy By.out)
  go_upto_region 6 with (fail)
  go_wp2_with fail
  refine (HP.out wy By.out).mono ?_
  rintro e wp ⟨rfl, bb⟩
  have Bwp := Lib.hid (below_top' By.out bb)
  clear k0 k1 k2 k3 k4 k5 k6 k7 k8 k9 k10 bb
  obtain ⟨k0, k1, k2, k3, k4, k5, k6, k7, k8, k9, k10⟩ := row11 (hm4.out wp Bwp.out)
  have f0 : ((0 : Int) != 0) = false := by decide
  have f1 : (Y != Y) = false := by simp
  go_upto_region 7 with (fail)
  go_wp2_with fail
  refine (HA.out wp Bwp.out).mono ?_
  rintro e wa ⟨rfl, bb⟩
  have Bwa := Lib.hid (below_top' Bwp.out bb)
  clear k0 k1 k2 k3 k4 k5 k6 k7 k8 k9 k10 bb
  obtain ⟨k0, k1, k2, k3, k4, k5, k6, k7, k8, k9, k10⟩ := row11 (hm4.out wa Bwa.out)
  go_wp2_with fail
  refine (HB.out wa Bwa.out).mono ?_
  rintro e wb ⟨rfl, bb⟩
  have Bwb := Lib.hid (below_top' Bwa.out bb)
  clear k0 k1 k2 k3 k4 k5 k6 k7 k8 k9 k10 bb
  obtain ⟨k0, k1, k2, k3, k4, k5, k6, k7, k8, k9, k10⟩ := row11 (hm4.out wb Bwb.out)
  go_upto_region 9 with (fail)
  have c0 := HN.out wb Bwb.out
  have hjn : j < n2m := by have := hn2.out; omega
  have hjn1 : (j : Int) < (n2m : Int) := by omega
  have hjn2 : decide ((j : Int) < (n2m : Int)) = true := decide_eq_true hjn1
  have wS : IntKind.i64.wrap (rj + Y) = rj + Y := wrap_in (by omega) (by omega)
  have z0 : (fun W : World => (W.cell? ⟨mb, 0, none⟩ = some (.string (str codem)) ∧ W.cell? ⟨mb, 1, none⟩ = some (.slice A1m n1m c1m) ∧ W.cell? ⟨mb, 2, none⟩ = some (.int .i64 tickm) ∧ W.cell? ⟨mb, 3, none⟩ = some (.int .i64 lowm) ∧ W.cell? ⟨mb, 4, none⟩ = some (.int .i64 highm) ∧ W.cell? ⟨mb, 5, none⟩ = some (.int .i64 widem) ∧ W.cell? ⟨mb, 6, none⟩ = some (.int .i64 rulem) ∧ W.cell? ⟨mb, 7, none⟩ = some (.int .i64 topm) ∧ W.cell? ⟨mb, 8, none⟩ = some (.int .i64 leastm) ∧ W.cell? ⟨mb, 9, none⟩ = some (.int .i64 partm) ∧ W.cell? ⟨mb, 10, none⟩ = some (.slice (some ⟨sb, so, none⟩) n2m c2m)) ∧ W.cell? ⟨sb, so + j, none⟩ = some (.int .i64 rj) ∧ Below wx.heap.size wx W) wb.drew := ⟨⟨k0, k1, k2, k3, k4, k5, k6, k7, k8, k9, k10⟩, c0, Bwb.out.drew⟩
  clear k0 k1 k2 k3 k4 k5 k6 k7 k8 k9 k10 c0
  refine wp_region_held_drew (S := (fun W : World => (W.cell? ⟨mb, 0, none⟩ = some (.string (str codem)) ∧ W.cell? ⟨mb, 1, none⟩ = some (.slice A1m n1m c1m) ∧ W.cell? ⟨mb, 2, none⟩ = some (.int .i64 tickm) ∧ W.cell? ⟨mb, 3, none⟩ = some (.int .i64 lowm) ∧ W.cell? ⟨mb, 4, none⟩ = some (.int .i64 highm) ∧ W.cell? ⟨mb, 5, none⟩ = some (.int .i64 widem) ∧ W.cell? ⟨mb, 6, none⟩ = some (.int .i64 rulem) ∧ W.cell? ⟨mb, 7, none⟩ = some (.int .i64 topm) ∧ W.cell? ⟨mb, 8, none⟩ = some (.int .i64 leastm) ∧ W.cell? ⟨mb, 9, none⟩ = some (.int .i64 partm) ∧ W.cell? ⟨mb, 10, none⟩ = some (.slice (some ⟨sb, so, none⟩) n2m c2m)) ∧ W.cell? ⟨sb, so + j, none⟩ = some (.int .i64 rj) ∧ Below wx.heap.size wx W)) (by kernel_rfl) z0 (fun hHeld => ?_)
  refine wpAnyH_take (i := 0) (v := .agg #[.string (str codem), .slice A1m n1m c1m, .int .i64 tickm, .int .i64 lowm, .int .i64 highm, .int .i64 widem, .int .i64 rulem, .int .i64 topm, .int .i64 leastm, .int .i64 partm, .slice (some ⟨sb, so, none⟩) n2m c2m]) rfl (by kernel_rfl) (by kernel_rfl) (by kernel_rfl) (fun _ _ _ h => h) (Or.inl ⟨by kernel_rfl, fun W hSw => ?_⟩) (by assumption) ?_
  · (try dsimp only at hSw)
    go_simp
  (try simp only [Act.put, List.setIfInBounds_toArray, List.set_cons_zero, List.set_cons_succ])
  refine wpAnyH_take (i := 1) (v := .int .i64 (i : Int)) rfl (by kernel_rfl) (by kernel_rfl) (by kernel_rfl) (fun _ _ _ h => h) (Or.inl ⟨by kernel_rfl, fun W hSw => ?_⟩) (by assumption) ?_
  · (try dsimp only at hSw)
    go_simp
  (try simp only [Act.put, List.setIfInBounds_toArray, List.set_cons_zero, List.set_cons_succ])
  refine wpAnyH_take (i := 2) (v := .pointer (some ⟨mb, 10, none⟩)) rfl (by kernel_rfl) (by kernel_rfl) (by kernel_rfl) (fun _ _ _ h => h) (Or.inl ⟨by kernel_rfl, fun W hSw => ?_⟩) (by assumption) ?_
  · (try dsimp only at hSw)
    go_simp
  (try simp only [Act.put, List.setIfInBounds_toArray, List.set_cons_zero, List.set_cons_succ])
  refine wpAnyH_take (i := 3) (v := .slice (some ⟨sb, so, none⟩) n2m c2m) rfl (by kernel_rfl) (by kernel_rfl) (by kernel_rfl) (fun _ _ _ h => h) (Or.inl ⟨by kernel_rfl, fun W hSw => ?_⟩) (by assumption) ?_
  · (try dsimp only at hSw)
    go_simp
  (try simp only [Act.put, List.setIfInBounds_toArray, List.set_cons_zero, List.set_cons_succ])
  refine wpAnyH_take (i := 4) (v := .int .i64 (j : Int)) rfl (by kernel_rfl) (by kernel_rfl) (by kernel_rfl) (fun _ _ _ h => h) (Or.inl ⟨by kernel_rfl, fun W hSw => ?_⟩) (by assumption) ?_
  · (try dsimp only at hSw)
    go_simp
  (try simp only [Act.put, List.setIfInBounds_toArray, List.set_cons_zero, List.set_cons_succ])
  refine wpAnyH_take (i := 5) (v := .pointer (some ⟨sb, so + j, none⟩)) rfl (by kernel_rfl) (by kernel_rfl) (by kernel_rfl) (fun _ _ _ h => h) (Or.inl ⟨by kernel_rfl, fun W hSw => ?_⟩) (by assumption) ?_
  · (try dsimp only at hSw)
    go_simp
  (try simp only [Act.put, List.setIfInBounds_toArray, List.set_cons_zero, List.set_cons_succ])
  refine wpAnyH_take (i := 6) (v := .int .i64 rj) rfl (by kernel_rfl) (by kernel_rfl) (by kernel_rfl) (fun _ _ _ h => h) (Or.inl ⟨by kernel_rfl, fun W hSw => ?_⟩) (by assumption) ?_
  · (try dsimp only at hSw)
    go_simp
  (try simp only [Act.put, List.setIfInBounds_toArray, List.set_cons_zero, List.set_cons_succ])
  refine wpAnyH_take (i := 7) (v := .int .i64 Y) rfl (by kernel_rfl) (by kernel_rfl) (by kernel_rfl) (fun _ _ _ h => h) (Or.inl ⟨by kernel_rfl, fun W hSw => ?_⟩) (by assumption) ?_
  · (try dsimp only at hSw)
    go_simp
  (try simp only [Act.put, List.setIfInBounds_toArray, List.set_cons_zero, List.set_cons_succ])
  refine wpAnyH_take (i := 8) (v := .int .i64 (rj + Y)) rfl (by kernel_rfl) (by kernel_rfl) (by kernel_rfl) (fun _ _ _ h => h) (Or.inl ⟨by kernel_rfl, fun W hSw => ?_⟩) (by assumption) ?_
  · (try dsimp only at hSw)
    go_simp
  (try simp only [Act.put, List.setIfInBounds_toArray, List.set_cons_zero, List.set_cons_succ])
  refine wpAnyH_ready (rs := [9]) (by kernel_rfl) (by simp) ?_
  refine AllReadyH.cons rfl (fun K hK => ?_) AllReadyH.nil
  go_simp
  refine (HC.out _ Bwb.out.drew).mono ?_
  rintro e wc ⟨rfl, bb⟩
  have Bwc := Lib.hid (below_top' Bwb.out.drew bb)
  have z1 : (fun W : World => (W.cell? ⟨mb, 0, none⟩ = some (.string (str codem)) ∧ W.cell? ⟨mb, 1, none⟩ = some (.slice A1m n1m c1m) ∧ W.cell? ⟨mb, 2, none⟩ = some (.int .i64 tickm) ∧ W.cell? ⟨mb, 3, none⟩ = some (.int .i64 lowm) ∧ W.cell? ⟨mb, 4, none⟩ = some (.int .i64 highm) ∧ W.cell? ⟨mb, 5, none⟩ = some (.int .i64 widem) ∧ W.cell? ⟨mb, 6, none⟩ = some (.int .i64 rulem) ∧ W.cell? ⟨mb, 7, none⟩ = some (.int .i64 topm) ∧ W.cell? ⟨mb, 8, none⟩ = some (.int .i64 leastm) ∧ W.cell? ⟨mb, 9, none⟩ = some (.int .i64 partm) ∧ W.cell? ⟨mb, 10, none⟩ = some (.slice (some ⟨sb, so, none⟩) n2m c2m)) ∧ W.cell? ⟨sb, so + j, none⟩ = some (.int .i64 rj) ∧ Below wx.heap.size wx W) wc := ⟨row11 (hm4.out wc Bwc.out), HN.out wc Bwc.out, Bwc.out⟩
  clear bb z0
  refine hK.out _ _ z1 (fun hHeld => ?_)
  clear hK K
  (try simp only [Act.put, List.setIfInBounds_toArray, List.set_cons_zero, List.set_cons_succ])
  refine wpAnyH_take (i := 10) (v := .bool ((pr : Int) == 0)) rfl (by kernel_rfl) (by kernel_rfl) (by kernel_rfl) (fun _ _ _ h => h) (Or.inl ⟨by kernel_rfl, fun W hSw => ?_⟩) (by assumption) ?_
  · (try dsimp only at hSw)
    go_simp
  (try simp only [Act.put, List.setIfInBounds_toArray, List.set_cons_zero, List.set_cons_succ])
  refine wpAnyH_done (by kernel_rfl) ?_ _
  (try simp only [List.getElem_toArray, List.getElem_cons_succ, List.getElem_cons_zero, Act.put, List.setIfInBounds_toArray, List.set_cons_zero, List.set_cons_succ])
  clear hHeld z1 wS
  obtain ⟨k0, k1, k2, k3, k4, k5, k6, k7, k8, k9, k10⟩ := row11 (hm4.out wc Bwc.out)
  have c0 := HN.out wc Bwc.out
  have KN : Hid (∀ W : World, Calls Try.prog 10 #[] W fun e w' => e = .returned (.bool true) ∧ Below W.heap.size W w') := Lib.hid (fun W => Known_any W)
  rcases e5 with ⟨rfl, rfl⟩ | ⟨q0, q1⟩
  · have f2 : (((0 : Nat) : Int) == 0) = true := by decide
    have f3 : (b == b) = true := by simp
    go_wp2_with fail
    refine (KN.out wc).mono ?_
    rintro e wk ⟨rfl, bb⟩
    have Bwk := Lib.hid (below_top' Bwc.out bb)
    clear bb
    go_wp2_with fail
    go_ret
    exact ⟨rfl, below_top' hB4.out Bwk.out⟩
  · have f2 : ((pr : Int) == 0) = false := by simp; omega
    by_cases q2 : a = highm
    · have f3 : (a == highm) = true := by simp [q2]
      clear q1 q2
      go_wp2_with fail
      refine (KN.out wc).mono ?_
      rintro e wk ⟨rfl, bb⟩
      have Bwk := Lib.hid (below_top' Bwc.out bb)
      clear bb
      go_wp2_with fail
      go_ret
      exact ⟨rfl, below_top' hB4.out Bwk.out⟩
    · have f3 : (a == highm) = false := by simp [q2]
      have f4 : (a == lowm) = true := by have : a = lowm := by rcases q1 with g | g; exact absurd g q2; exact g
                                         simp [this]
      clear q1 q2
      go_wp2_with fail
      refine (KN.out wc).mono ?_
      rintro e wk ⟨rfl, bb⟩
      have Bwk := Lib.hid (below_top' Bwc.out bb)
      clear bb
      go_wp2_with fail
      go_ret
      exact ⟨rfl, below_top' hB4.out Bwk.out⟩
end Go.Proofs.Ytpfgmebajefjaaa
