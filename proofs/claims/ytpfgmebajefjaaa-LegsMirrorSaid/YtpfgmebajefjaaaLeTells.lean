/-
  The walk of the law LegsTells.
-/
import Derived.Test.YtpfgmebajefjaaaLeSame
import Derived.Test.YtpfgmebajefjaaaLeKnown
import Derived.Test.YtpfgmebajefjaaaLeFacts
import Derived.Deep.QuietTactic
import Derived.BigQuiet
namespace Go.Proofs.Ytpfgmebajefjaaa
open Go.RowKit
set_option linter.unusedVariables false
set_option linter.unusedSimpArgs false

set_option maxRecDepth 100000 in
set_option maxHeartbeats 8000000 in
theorem LTells_walk (p : PD) (inst x0 steps : Int) (w : World) (h : Hid (p.Fit w)) (i1 : -9223372036854775808 ≤ inst) (i2 : inst ≤ 9223372036854775807) (x1 : -9223372036854775808 ≤ x0) (x2 : x0 ≤ 9223372036854775807) (s1 : -9223372036854775808 ≤ steps) (s2 : steps ≤ 9223372036854775807) :
    Calls Try.prog 4 #[p.val, .int .i64 inst, .int .i64 x0, .int .i64 steps] w fun e w' => e = .returned (.bool true) ∧ Below w.heap.size w w' := by
  have HS : Hid (∀ W, Below w.heap.size w W → Calls Try.prog 11 #[p.val] W fun e w' => ∃ q : PD, e = .returned q.val ∧ (∀ W, Below w.heap.size w W → q.Ok W) ∧ Below W.heap.size W w') := Lib.hid (fun W b => (Short_any p W (Lib.hid (h.out.below b))).mono fun e w' ⟨h1, h2⟩ => ⟨_, h1, fun W g => (h.out.below g).short, h2⟩)
  clear h
  obtain ⟨code, A1, n1, c1, tick, low, high, wide, rule, top, least, part, A2, n2, c2, Q, R⟩ := p
  replace HS : Hid (∀ W, Below w.heap.size w W → Calls Try.prog 11 #[.agg #[.string (str code), .slice A1 n1 c1, .int .i64 tick, .int .i64 low, .int .i64 high, .int .i64 wide, .int .i64 rule, .int .i64 top, .int .i64 least, .int .i64 part, .slice A2 n2 c2]] W fun e w' => ∃ q : PD, e = .returned q.val ∧ (∀ W, Below w.heap.size w W → q.Ok W) ∧ Below W.heap.size W w') := HS
  show Calls Try.prog 4 #[.agg #[.string (str code), .slice A1 n1 c1, .int .i64 tick, .int .i64 low, .int .i64 high, .int .i64 wide, .int .i64 rule, .int .i64 top, .int .i64 least, .int .i64 part, .slice A2 n2 c2], .int .i64 inst, .int .i64 x0, .int .i64 steps] w _
  obtain ⟨W0, eW0⟩ : ∃ W0, w.alloc (.cells #[.string (str code), .slice A1 n1 c1, .int .i64 tick, .int .i64 low, .int .i64 high, .int .i64 wide, .int .i64 rule, .int .i64 top, .int .i64 least, .int .i64 part, .slice A2 n2 c2] 25) = W0 := ⟨_, rfl⟩
  obtain ⟨pb, epb⟩ : ∃ pb, w.heap.size = pb := ⟨_, rfl⟩
  have hblk0 : Hid (W0.heap[pb]? = some (.cells #[.string (str code), .slice A1 n1 c1, .int .i64 tick, .int .i64 low, .int .i64 high, .int .i64 wide, .int .i64 rule, .int .i64 top, .int .i64 least, .int .i64 part, .slice A2 n2 c2] 25 (0, 0))) := Lib.hid (by rw [← eW0, ← epb]; exact heap_alloc_new w _)
  have hB0 : Hid (Below w.heap.size w W0) := Lib.hid (by rw [← eW0]; exact (Below.refl _ w).alloc (Nat.le_refl _) _)
  replace eW0 := Lib.hid eW0
  replace epb := Lib.hid epb
  go_enter Try.func4, Try.ntmps4
  obtain ⟨k0, k1, k2, k3, k4, k5, k6, k7, k8, k9, k10⟩ := row11 hblk0.out
  have hpl : Hid (w.heap.size ≤ pb) := Lib.hid (by rw [epb.out]; exact Nat.le_refl _)
  go_upto_region 1 with (fail)
  rw [eW0.out, epb.out]
  clear eW0
  go_wp2_with fail
  refine (HS.out W0 hB0.out).mono ?_
  clear HS
  rintro e w1 ⟨x, rfl, hOx, b1⟩
  have hB1 := below_top' hB0.out b1
  have hblk1 := pd_blk' hblk0.out b1
  clear k0 k1 k2 k3 k4 k5 k6 k7 k8 k9 k10 hblk0 hB0 b1
  obtain ⟨codes, A1s, n1s, c1s, ticks, lows, highs, wides, rules, tops, leasts, parts, A2s, n2s, c2s, Qs, Rs⟩ := x
  rw [show PD.val ⟨codes, A1s, n1s, c1s, ticks, lows, highs, wides, rules, tops, leasts, parts, A2s, n2s, c2s, Qs, Rs⟩ = .agg #[.string (str codes), .slice A1s n1s c1s, .int .i64 ticks, .int .i64 lows, .int .i64 highs, .int .i64 wides, .int .i64 rules, .int .i64 tops, .int .i64 leasts, .int .i64 parts, .slice A2s n2s c2s] from rfl]
  have hq := Lib.hid hblk1
  have one := Lib.hid (show (#[.string (str codes), .slice A1s n1s c1s, .int .i64 ticks, .int .i64 lows, .int .i64 highs, .int .i64 wides, .int .i64 rules, .int .i64 tops, .int .i64 leasts, .int .i64 parts, .slice A2s n2s c2s] : Array Value).all (·.oneCell') = true from by simp [Value.oneCell'])
  obtain ⟨k0, k1, k2, k3, k4, k5, k6, k7, k8, k9, k10⟩ := row11 (setRow_heap w1 pb _ #[.string (str codes), .slice A1s n1s c1s, .int .i64 ticks, .int .i64 lows, .int .i64 highs, .int .i64 wides, .int .i64 rules, .int .i64 tops, .int .i64 leasts, .int .i64 parts, .slice A2s n2s c2s] 25 _ hq.out)
  obtain ⟨W2, eW2⟩ : ∃ W, w1.setRow pb #[.string (str codes), .slice A1s n1s c1s, .int .i64 ticks, .int .i64 lows, .int .i64 highs, .int .i64 wides, .int .i64 rules, .int .i64 tops, .int .i64 leasts, .int .i64 parts, .slice A2s n2s c2s] = W := ⟨_, rfl⟩
  have H2 := Lib.hid (show W2.heap[pb]? = some (.cells #[.string (str codes), .slice A1s n1s c1s, .int .i64 ticks, .int .i64 lows, .int .i64 highs, .int .i64 wides, .int .i64 rules, .int .i64 tops, .int .i64 leasts, .int .i64 parts, .slice A2s n2s c2s] 25 (0, 0)) by rw [← eW2]; exact setRow_heap w1 pb _ #[.string (str codes), .slice A1s n1s c1s, .int .i64 ticks, .int .i64 lows, .int .i64 highs, .int .i64 wides, .int .i64 rules, .int .i64 tops, .int .i64 leasts, .int .i64 parts, .slice A2s n2s c2s] 25 _ hq.out)
  have hB2 := Lib.hid (show Below w.heap.size w W2 by rw [← eW2]; exact below_setRow hB1 hpl.out #[.string (str codes), .slice A1s n1s c1s, .int .i64 ticks, .int .i64 lows, .int .i64 highs, .int .i64 wides, .int .i64 rules, .int .i64 tops, .int .i64 leasts, .int .i64 parts, .slice A2s n2s c2s])
  replace hOx := Lib.hid hOx
  replace eW2 := Lib.hid eW2
  clear hblk1 hB1
  have HK : Hid (Calls Try.prog 12 #[.agg #[.string (str codes), .slice A1s n1s c1s, .int .i64 ticks, .int .i64 lows, .int .i64 highs, .int .i64 wides, .int .i64 rules, .int .i64 tops, .int .i64 leasts, .int .i64 parts, .slice A2s n2s c2s]] W2 fun e w' => ∃ P : PD, e = .returned P.val ∧ (∃ T K, P.Keep15 T K) ∧ P.Ok w' ∧ Below W2.heap.size W2 w') := Lib.hid (KProd15 ⟨codes, A1s, n1s, c1s, ticks, lows, highs, wides, rules, tops, leasts, parts, A2s, n2s, c2s, Qs, Rs⟩ W2 (Lib.hid (hOx.out W2 hB2.out).fit))
  go_wp2_with (refine wpList_store_row rfl 25 (.tmp 4) (.tmp 14) rfl pb #[.string (str codes), .slice A1s n1s c1s, .int .i64 ticks, .int .i64 lows, .int .i64 highs, .int .i64 wides, .int .i64 rules, .int .i64 tops, .int .i64 leasts, .int .i64 parts, .slice A2s n2s c2s] rfl rfl 25 #[.string (str code), .slice A1 n1 c1, .int .i64 tick, .int .i64 low, .int .i64 high, .int .i64 wide, .int .i64 rule, .int .i64 top, .int .i64 least, .int .i64 part, .slice A2 n2 c2] hq.out rfl rfl one.out ?_)
  rw [eW2.out]
  clear eW2 hq one
  go_wp2_with fail
  refine HK.out.mono ?_
  clear HK
  rintro e w3 ⟨P, rfl, ⟨TT, TK, pk⟩, pok, b3⟩
  have hB3 := Lib.hid (below_top' hB2.out b3)
  have H3 := Lib.hid (pd_blk' H2.out b3)
  clear k0 k1 k2 k3 k4 k5 k6 k7 k8 k9 k10 H2 hB2 b3
  obtain ⟨codem, A1m, n1m, c1m, tickm, lowm, highm, widem, rulem, topm, leastm, partm, A2m, n2m, c2m, Qm, Rm⟩ := P
  rw [show PD.val ⟨codem, A1m, n1m, c1m, tickm, lowm, highm, widem, rulem, topm, leastm, partm, A2m, n2m, c2m, Qm, Rm⟩ = .agg #[.string (str codem), .slice A1m n1m c1m, .int .i64 tickm, .int .i64 lowm, .int .i64 highm, .int .i64 widem, .int .i64 rulem, .int .i64 topm, .int .i64 leastm, .int .i64 partm, .slice A2m n2m c2m] from rfl]
  obtain ⟨mb, emb⟩ : ∃ x, w3.heap.size = x := ⟨_, rfl⟩
  obtain ⟨W4, eW4⟩ : ∃ W, w3.alloc (.cells #[.string (str codem), .slice A1m n1m c1m, .int .i64 tickm, .int .i64 lowm, .int .i64 highm, .int .i64 widem, .int .i64 rulem, .int .i64 topm, .int .i64 leastm, .int .i64 partm, .slice A2m n2m c2m] 25) = W := ⟨_, rfl⟩
  have b34 : Below w3.heap.size w3 W4 := by rw [← eW4]; exact (Below.refl _ w3).alloc (Nat.le_refl _) _
  have hmb : W4.heap[mb]? = some (.cells #[.string (str codem), .slice A1m n1m c1m, .int .i64 tickm, .int .i64 lowm, .int .i64 highm, .int .i64 widem, .int .i64 rulem, .int .i64 topm, .int .i64 leastm, .int .i64 partm, .slice A2m n2m c2m] 25 (0, 0)) := by rw [← eW4, ← emb]; exact heap_alloc_new w3 _
  have hpb4 := pd_blk' H3.out b34
  have hm4 : Hid (∀ W, Below W4.heap.size W4 W → W.heap[mb]? = some (.cells #[.string (str codem), .slice A1m n1m c1m, .int .i64 tickm, .int .i64 lowm, .int .i64 highm, .int .i64 widem, .int .i64 rulem, .int .i64 topm, .int .i64 leastm, .int .i64 partm, .slice A2m n2m c2m] 25 (0, 0))) := Lib.hid (fun W b => pd_blk' hmb b)
  have hs4 : Hid (∀ W, Below W4.heap.size W4 W → W.heap[pb]? = some (.cells #[.string (str codes), .slice A1s n1s c1s, .int .i64 ticks, .int .i64 lows, .int .i64 highs, .int .i64 wides, .int .i64 rules, .int .i64 tops, .int .i64 leasts, .int .i64 parts, .slice A2s n2s c2s] 25 (0, 0))) := Lib.hid (fun W b => pd_blk' hpb4 b)
  have hB4 := Lib.hid (below_top' hB3.out b34)
  have HX : Hid (∀ W i y, Below W4.heap.size W4 W → I64 i → I64 y → Calls Try.prog 8 #[.agg #[.string (str codes), .slice A1s n1s c1s, .int .i64 ticks, .int .i64 lows, .int .i64 highs, .int .i64 wides, .int .i64 rules, .int .i64 tops, .int .i64 leasts, .int .i64 parts, .slice A2s n2s c2s], .int .i64 i, .int .i64 y] W fun e w' => e = .returned (.bool true) ∧ Below W.heap.size W w') := Lib.hid (fun W i y b hi hy => Same_yes ⟨codes, A1s, n1s, c1s, ticks, lows, highs, wides, rules, tops, leasts, parts, A2s, n2s, c2s, Qs, Rs⟩ i y W (Lib.hid (hOx.out W (below_top' hB4.out b))) hi hy)
  have HP : Hid (∀ W i y, Below W4.heap.size W4 W → I64 i → I64 y → Calls Try.prog 8 #[.agg #[.string (str codem), .slice A1m n1m c1m, .int .i64 tickm, .int .i64 lowm, .int .i64 highm, .int .i64 widem, .int .i64 rulem, .int .i64 topm, .int .i64 leastm, .int .i64 partm, .slice A2m n2m c2m], .int .i64 i, .int .i64 y] W fun e w' => e = .returned (.bool true) ∧ Below W.heap.size W w') := Lib.hid (fun W i y b hi hy => Same_yes ⟨codem, A1m, n1m, c1m, tickm, lowm, highm, widem, rulem, topm, leastm, partm, A2m, n2m, c2m, Qm, Rm⟩ i y W (Lib.hid ((pok.below b34).below b)) hi hy)
  have hk := Lib.hid pk
  replace eW4 := Lib.hid eW4
  replace emb := Lib.hid emb
  clear pk pok b34 hmb hpb4 H3 hB3 hOx
  obtain ⟨n1', n2', n3', n4', n5', n6'⟩ := hk.out.self.cnt
  have n7' := hk.out.self.na
  have n8' := hk.out.self.nb
  have n9' := hk.out.self.T1
  have n10' := hk.out.self.T2
  have n11' := hk.out.self.K1
  have n12' := hk.out.self.K2
  have n13' : tickm = TT := hk.out.self.tick
  subst n13'
  simp only at n1' n2' n3' n4' n5' n6' n7' n8'
  obtain ⟨M, hM⟩ : ∃ M, n1m * (n1m - 1) / 2 = M := ⟨_, rfl⟩
  rw [hM] at n1' n2' n3' n4'
  obtain ⟨Z, hZ⟩ : ∃ Z, (n1m : Int) * ((n1m : Int) - 1) = Z := ⟨_, rfl⟩
  rw [hZ] at n4' n5' n6'
  obtain ⟨k0, k1, k2, k3, k4, k5, k6, k7, k8, k9, k10⟩ := row11 (hm4.out W4 (Below.refl _ _))
  go_upto_region 3 with (fail)
  rw [eW4.out, emb.out]
  clear eW4 emb
  go_upto_region 4 with (fail)
  go_wp2_with fail
  have W5 := Lib.hid (Within_any inst (M - 1) W4 (by omega) i1 i2)
  have w5 := withinN_le inst (M - 1)
  obtain ⟨kk, ekk⟩ : ∃ k, withinN inst (M - 1) = k := ⟨_, rfl⟩
  rw [ekk] at W5 w5
  clear ekk
  refine W5.out.mono ?_
  rintro e wx ⟨rfl, rfl⟩
  clear W5
  have W6 : Hid (∀ W, _) := Lib.hid (fun W => Within_any steps 200 W (by omega) s1 s2)
  have w6 := withinN_le steps 200
  obtain ⟨ks, eks⟩ : ∃ k, withinN steps 200 = k := ⟨_, rfl⟩
  rw [eks] at W6 w6
  clear eks
  have y1 := tick_in n9' n10' (a := (ks : Int) - 100) (by omega) (by omega)
  obtain ⟨Y, hY⟩ : ∃ Y, tickm * ((ks : Int) - 100) = Y := ⟨_, rfl⟩
  rw [hY] at y1
  obtain ⟨y1, y2⟩ := y1
  have wY : IntKind.i64.wrap (tickm * ((ks : Int) - 100)) = Y := by rw [hY]; exact wrap_in (by omega) (by omega)
  have wY2 : wrap64 (tickm * ((ks : Int) - 100)) = Y := by rw [hY]; exact IntWalk.wrap64_in _ ⟨by omega, by omega⟩
  have wY3 : IntKind.i64.wrap Y = Y := wrap_in (by omega) (by omega)
  have wk : IntKind.i64.wrap ((ks : Int) - 100) = (ks : Int) - 100 := wrap_in (by omega) (by omega)
  have wk2 : wrap64 ((ks : Int) - 100) = (ks : Int) - 100 := IntWalk.wrap64_in _ ⟨by omega, by omega⟩
  have z0 : (fun W : World => (W.cell? ⟨mb, 0, none⟩ = some (.string (str codem)) ∧ W.cell? ⟨mb, 1, none⟩ = some (.slice A1m n1m c1m) ∧ W.cell? ⟨mb, 2, none⟩ = some (.int .i64 tickm) ∧ W.cell? ⟨mb, 3, none⟩ = some (.int .i64 lowm) ∧ W.cell? ⟨mb, 4, none⟩ = some (.int .i64 highm) ∧ W.cell? ⟨mb, 5, none⟩ = some (.int .i64 widem) ∧ W.cell? ⟨mb, 6, none⟩ = some (.int .i64 rulem) ∧ W.cell? ⟨mb, 7, none⟩ = some (.int .i64 topm) ∧ W.cell? ⟨mb, 8, none⟩ = some (.int .i64 leastm) ∧ W.cell? ⟨mb, 9, none⟩ = some (.int .i64 partm) ∧ W.cell? ⟨mb, 10, none⟩ = some (.slice A2m n2m c2m)) ∧ Below wx.heap.size wx W) wx.drew := ⟨⟨k0, k1, k2, k3, k4, k5, k6, k7, k8, k9, k10⟩, (Below.refl _ wx).drew⟩
  have B4 := Lib.hid (Below.refl wx.heap.size wx)
  clear k0 k1 k2 k3 k4 k5 k6 k7 k8 k9 k10
  go_upto_region 5 with (fail)
  refine wp_region_held_drew (S := (fun W : World => (W.cell? ⟨mb, 0, none⟩ = some (.string (str codem)) ∧ W.cell? ⟨mb, 1, none⟩ = some (.slice A1m n1m c1m) ∧ W.cell? ⟨mb, 2, none⟩ = some (.int .i64 tickm) ∧ W.cell? ⟨mb, 3, none⟩ = some (.int .i64 lowm) ∧ W.cell? ⟨mb, 4, none⟩ = some (.int .i64 highm) ∧ W.cell? ⟨mb, 5, none⟩ = some (.int .i64 widem) ∧ W.cell? ⟨mb, 6, none⟩ = some (.int .i64 rulem) ∧ W.cell? ⟨mb, 7, none⟩ = some (.int .i64 topm) ∧ W.cell? ⟨mb, 8, none⟩ = some (.int .i64 leastm) ∧ W.cell? ⟨mb, 9, none⟩ = some (.int .i64 partm) ∧ W.cell? ⟨mb, 10, none⟩ = some (.slice A2m n2m c2m)) ∧ Below wx.heap.size wx W)) (by kernel_rfl) z0 (fun hHeld => ?_)
  refine wpAnyH_take (i := 0) (v := .pointer (some ⟨mb, 2, none⟩)) rfl (by kernel_rfl) (by kernel_rfl) (by kernel_rfl) (fun _ _ _ h => h) (Or.inl ⟨by kernel_rfl, fun W hSw => ?_⟩) (by assumption) ?_
  · (try dsimp only at hSw)
    go_simp
  (try simp only [Act.put, List.setIfInBounds_toArray, List.set_cons_zero, List.set_cons_succ])
  refine wpAnyH_take (i := 1) (v := .int .i64 tickm) rfl (by kernel_rfl) (by kernel_rfl) (by kernel_rfl) (fun _ _ _ h => h) (Or.inl ⟨by kernel_rfl, fun W hSw => ?_⟩) (by assumption) ?_
  · (try dsimp only at hSw)
    go_simp
  (try simp only [Act.put, List.setIfInBounds_toArray, List.set_cons_zero, List.set_cons_succ])
  refine wpAnyH_take (i := 2) (v := .int .i64 steps) rfl (by kernel_rfl) (by kernel_rfl) (by kernel_rfl) (fun _ _ _ h => h) (Or.inl ⟨by kernel_rfl, fun W hSw => ?_⟩) (by assumption) ?_
  · (try dsimp only at hSw)
    go_simp
  (try simp only [Act.put, List.setIfInBounds_toArray, List.set_cons_zero, List.set_cons_succ])
  refine wpAnyH_ready (rs := [3]) (by kernel_rfl) (by simp) ?_
  refine AllReadyH.cons rfl (fun K hK => ?_) AllReadyH.nil
  go_simp
  refine (W6.out _).mono ?_
  rintro e ux ⟨rfl, eux⟩
  obtain rfl := eux.symm
  go_wp2_with fail
  refine hK.out _ _ z0 (fun hHeld => ?_)
  clear hK K
  (try simp only [Act.put, List.setIfInBounds_toArray, List.set_cons_zero, List.set_cons_succ])
  refine wpAnyH_take (i := 4) (v := .int .i64 ((ks : Int) - 100)) rfl (by kernel_rfl) (by kernel_rfl) (by kernel_rfl) (fun _ _ _ h => h) (Or.inl ⟨by kernel_rfl, fun W hSw => ?_⟩) (by assumption) ?_
  · (try dsimp only at hSw)
    go_simp
  (try simp only [Act.put, List.setIfInBounds_toArray, List.set_cons_zero, List.set_cons_succ])
  refine wpAnyH_take (i := 5) (v := .int .i64 Y) rfl (by kernel_rfl) (by kernel_rfl) (by kernel_rfl) (fun _ _ _ h => h) (Or.inl ⟨by kernel_rfl, fun W hSw => ?_⟩) (by assumption) ?_
  · (try dsimp only at hSw)
    go_simp
  (try simp only [Act.put, List.setIfInBounds_toArray, List.set_cons_zero, List.set_cons_succ])
  refine wpAnyH_take (i := 6) (v := .int .i64 Y) rfl (by kernel_rfl) (by kernel_rfl) (by kernel_rfl) (fun _ _ _ h => h) (Or.inl ⟨by kernel_rfl, fun W hSw => ?_⟩) (by assumption) ?_
  · (try dsimp only at hSw)
    go_simp
  (try simp only [Act.put, List.setIfInBounds_toArray, List.set_cons_zero, List.set_cons_succ])
  refine wpAnyH_done (by kernel_rfl) ?_ _
  (try simp only [List.getElem_toArray, List.getElem_cons_succ, List.getElem_cons_zero, Act.put, List.setIfInBounds_toArray, List.set_cons_zero, List.set_cons_succ])
  clear hHeld z0 W6 wY wY2 wY3 wk wk2
  replace B4 := Lib.hid (B4.out.drew)
  obtain ⟨wy, ewy⟩ : ∃ W, wx.drew = W := ⟨_, rfl⟩
  rw [ewy] at B4 ⊢
  clear ewy
  obtain ⟨k0, k1, k2, k3, k4, k5, k6, k7, k8, k9, k10⟩ := row11 (hs4.out wy B4.out)
  have HC := Lib.hid (HX.out wy inst x0 B4.out ⟨by omega, by omega⟩ ⟨by omega, by omega⟩)
  go_wp2_with fail
  refine HC.out.mono ?_
  rintro e wh0 ⟨rfl, bb⟩
  have Bwh0 := Lib.hid (below_top' B4.out bb)
  clear k0 k1 k2 k3 k4 k5 k6 k7 k8 k9 k10 HC bb
  obtain ⟨k0, k1, k2, k3, k4, k5, k6, k7, k8, k9, k10⟩ := row11 (hm4.out wh0 Bwh0.out)
  have HC := Lib.hid (HP.out wh0 inst x0 Bwh0.out ⟨by omega, by omega⟩ ⟨by omega, by omega⟩)
  go_wp2_with fail
  refine HC.out.mono ?_
  rintro e wh1 ⟨rfl, bb⟩
  have Bwh1 := Lib.hid (below_top' Bwh0.out bb)
  clear k0 k1 k2 k3 k4 k5 k6 k7 k8 k9 k10 HC bb
  obtain ⟨k0, k1, k2, k3, k4, k5, k6, k7, k8, k9, k10⟩ := row11 (hm4.out wh1 Bwh1.out)
  have HC := Lib.hid (HP.out wh1 ((n1m : Int) + (kk : Int)) Y Bwh1.out ⟨by omega, by omega⟩ ⟨by omega, by omega⟩)
  go_wp2_with fail
  refine HC.out.mono ?_
  rintro e wh2 ⟨rfl, bb⟩
  have Bwh2 := Lib.hid (below_top' Bwh1.out bb)
  clear k0 k1 k2 k3 k4 k5 k6 k7 k8 k9 k10 HC bb
  obtain ⟨k0, k1, k2, k3, k4, k5, k6, k7, k8, k9, k10⟩ := row11 (hm4.out wh2 Bwh2.out)
  have HC := Lib.hid (HP.out wh2 ((n1m : Int) + (kk : Int)) x0 Bwh2.out ⟨by omega, by omega⟩ ⟨by omega, by omega⟩)
  go_wp2_with fail
  refine HC.out.mono ?_
  rintro e wh3 ⟨rfl, bb⟩
  have Bwh3 := Lib.hid (below_top' Bwh2.out bb)
  clear k0 k1 k2 k3 k4 k5 k6 k7 k8 k9 k10 HC bb
  have HC := Lib.hid (Known_any wh3)
  go_wp2_with fail
  refine HC.out.mono ?_
  rintro e w9 ⟨rfl, bb⟩
  have B9 := Lib.hid (below_top' Bwh3.out bb)
  clear HC bb
  go_wp2_with fail
  go_ret
  exact ⟨rfl, below_top' hB4.out B9.out⟩
end Go.Proofs.Ytpfgmebajefjaaa
