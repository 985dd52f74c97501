/-
  The walk of the law ImpliedShift.
-/
import Derived.Test.YtdeofifidjbolaaIpTells
import Derived.Test.YtdeofifidjbolaaIpKeep2
import Derived.Test.YtdeofifidjbolaaIpNumP
import Derived.Test.YtdeofifidjbolaaIpSame
import Derived.Test.YtdeofifidjbolaaIpShP
import Derived.Test.YtdeofifidjbolaaImFacts4
import Derived.Test.YtdeofifidjbolaaIpShQ
import Derived.Deep.QuietTactic
import Derived.BigQuiet
namespace Go.Proofs.Ytdeofifidjbolaa
open Go.RowKit
set_option linter.unusedVariables false
set_option linter.unusedSimpArgs false

set_option maxRecDepth 100000 in
set_option maxHeartbeats 8000000 in
theorem IShift_walk (p : PD) (A : Option Addr) (n cap : Nat) (L : List Tp) (inst by0 : Int) (w : World) (h : Hid (p.Fit w)) (hA : Hid (HV fTp w A n L)) (hok : Hid (OkT L)) (hl : n ≤ cap) (hcap : cap ≤ 9223372036854775807) (i1 : -9223372036854775808 ≤ inst) (i2 : inst ≤ 9223372036854775807) (g1 : -9223372036854775808 ≤ by0) (g2 : by0 ≤ 9223372036854775807) :
    Calls Try.prog 9 #[p.val, .slice A n cap, .int .i64 inst, .int .i64 by0] w fun e w' => e = .returned (.bool true) ∧ Below w.heap.size w w' := by
  have HK : Hid (∀ W, Below w.heap.size w W → Calls Try.prog 17 #[p.val] W fun e w' => ∃ P : PD, e = .returned P.val ∧ P.Keep ∧ P.Keep2 ∧ P.Ok w' ∧ Below W.heap.size W w') := Lib.hid (fun W b => KProd14b p W (Lib.hid (h.out.below b)))
  clear h
  obtain ⟨code, A1, n1, c1, tick, low, high, wide, rule, top, least, part, A2, n2, c2, Q, R⟩ := p
  replace HK : Hid (∀ W, Below w.heap.size w W → Calls Try.prog 17 #[.agg #[.string (str code), .slice A1 n1 c1, .int .i64 tick, .int .i64 low, .int .i64 high, .int .i64 wide, .int .i64 rule, .int .i64 top, .int .i64 least, .int .i64 part, .slice A2 n2 c2]] W fun e w' => ∃ P : PD, e = .returned P.val ∧ P.Keep ∧ P.Keep2 ∧ P.Ok w' ∧ Below W.heap.size W w') := HK
  show Calls Try.prog 9 #[.agg #[.string (str code), .slice A1 n1 c1, .int .i64 tick, .int .i64 low, .int .i64 high, .int .i64 wide, .int .i64 rule, .int .i64 top, .int .i64 least, .int .i64 part, .slice A2 n2 c2], .slice A n cap, .int .i64 inst, .int .i64 by0] w _
  obtain ⟨W0, eW0⟩ : ∃ W0, w.alloc (.cells #[.string (str code), .slice A1 n1 c1, .int .i64 tick, .int .i64 low, .int .i64 high, .int .i64 wide, .int .i64 rule, .int .i64 top, .int .i64 least, .int .i64 part, .slice A2 n2 c2] 25) = W0 := ⟨_, rfl⟩
  obtain ⟨pb, epb⟩ : ∃ pb, w.heap.size = pb := ⟨_, rfl⟩
  have hblk0 : Hid (W0.heap[pb]? = some (.cells #[.string (str code), .slice A1 n1 c1, .int .i64 tick, .int .i64 low, .int .i64 high, .int .i64 wide, .int .i64 rule, .int .i64 top, .int .i64 least, .int .i64 part, .slice A2 n2 c2] 25 (0, 0))) := Lib.hid (by rw [← eW0, ← epb]; exact heap_alloc_new w _)
  have hB0 : Hid (Below w.heap.size w W0) := Lib.hid (by rw [← eW0]; exact (Below.refl _ w).alloc (Nat.le_refl _) _)
  replace eW0 := Lib.hid eW0
  replace epb := Lib.hid epb
  go_enter Try.func9, Try.ntmps9
  obtain ⟨k0, k1, k2, k3, k4, k5, k6, k7, k8, k9, k10⟩ := row11 hblk0.out
  go_upto_region 1 with (fail)
  rw [eW0.out, epb.out]
  clear eW0
  go_wp2_with fail
  refine (HK.out W0 hB0.out).mono ?_
  clear HK
  rintro e w3 ⟨P, rfl, pk, pk2, pok, b3⟩
  have hB3 := Lib.hid (below_top hB0.out b3)
  clear k0 k1 k2 k3 k4 k5 k6 k7 k8 k9 k10 hblk0 hB0 b3
  obtain ⟨codem, A1m, n1m, c1m, tickm, lowm, highm, widem, rulem, topm, leastm, partm, A2m, n2m, c2m, Qm, Rm⟩ := P
  rw [show PD.val ⟨codem, A1m, n1m, c1m, tickm, lowm, highm, widem, rulem, topm, leastm, partm, A2m, n2m, c2m, Qm, Rm⟩ = .agg #[.string (str codem), .slice A1m n1m c1m, .int .i64 tickm, .int .i64 lowm, .int .i64 highm, .int .i64 widem, .int .i64 rulem, .int .i64 topm, .int .i64 leastm, .int .i64 partm, .slice A2m n2m c2m] from rfl]
  obtain ⟨mb, emb⟩ : ∃ x, w3.heap.size = x := ⟨_, rfl⟩
  obtain ⟨W4, eW4⟩ : ∃ W, w3.alloc (.cells #[.string (str codem), .slice A1m n1m c1m, .int .i64 tickm, .int .i64 lowm, .int .i64 highm, .int .i64 widem, .int .i64 rulem, .int .i64 topm, .int .i64 leastm, .int .i64 partm, .slice A2m n2m c2m] 25) = W := ⟨_, rfl⟩
  have b34 : Below w3.heap.size w3 W4 := by rw [← eW4]; exact (Below.refl _ w3).alloc (Nat.le_refl _) _
  have hmb : W4.heap[mb]? = some (.cells #[.string (str codem), .slice A1m n1m c1m, .int .i64 tickm, .int .i64 lowm, .int .i64 highm, .int .i64 widem, .int .i64 rulem, .int .i64 topm, .int .i64 leastm, .int .i64 partm, .slice A2m n2m c2m] 25 (0, 0)) := by rw [← eW4, ← emb]; exact heap_alloc_new w3 _
  have hm4 : Hid (∀ W, Below W4.heap.size W4 W → W.heap[mb]? = some (.cells #[.string (str codem), .slice A1m n1m c1m, .int .i64 tickm, .int .i64 lowm, .int .i64 highm, .int .i64 widem, .int .i64 rulem, .int .i64 topm, .int .i64 leastm, .int .i64 partm, .slice A2m n2m c2m] 25 (0, 0))) := Lib.hid (fun W b => pd_blk' hmb b)
  have hB4 := Lib.hid (below_top hB3.out b34)
  have hOk4 : Hid (∀ W, Below W4.heap.size W4 W → PD.Ok ⟨codem, A1m, n1m, c1m, tickm, lowm, highm, widem, rulem, topm, leastm, partm, A2m, n2m, c2m, Qm, Rm⟩ W) := Lib.hid (fun W b => (pok.below b34).below b)
  have hk := Lib.hid pk
  have hk2 := Lib.hid pk2
  replace eW4 := Lib.hid eW4
  replace emb := Lib.hid emb
  have hOk3 : Hid (∀ W, Below w3.heap.size w3 W → PD.Ok ⟨codem, A1m, n1m, c1m, tickm, lowm, highm, widem, rulem, topm, leastm, partm, A2m, n2m, c2m, Qm, Rm⟩ W) := Lib.hid (fun W b => pok.below b)
  have hb34 := Lib.hid b34
  clear pk pk2 pok b34 hmb
  obtain ⟨i0, hi0, hz0, hz1, hz2⟩ := info_parts info_kt
  obtain ⟨j0, hj0, hy0, hy1, hy2⟩ := info_parts info_l
  have HWby : Hid (∀ W : World, Calls Try.prog 19 #[.int .i64 by0, .int .i64 0, .int .i64 (500)] W fun e w' => e = .returned (.int .i64 (withinN by0 500 : Int)) ∧ w' = W) := Lib.hid (fun W => by have := Within_any by0 500 W (by omega) g1 g2; rw [show ((500 : Nat) : Int) = 500 by omega] at this; exact this)
  have hwsb := withinN_le by0 500
  obtain ⟨sb, esb⟩ : ∃ k, withinN by0 500 = k := ⟨_, rfl⟩
  rw [esb] at HWby hwsb
  clear esb
  have ht1 : 1 ≤ tickm := hk.out.t1
  have ht2 : tickm ≤ 10 := hk.out.t2
  have hq1 : 0 ≤ tickm * (sb : Int) := Int.mul_nonneg (by omega) (by omega)
  have hq2 : tickm * (sb : Int) ≤ 5000 := by
    have a : tickm * (sb : Int) ≤ 10 * (sb : Int) := Int.mul_le_mul_of_nonneg_right ht2 (by omega)
    omega
  have hdv : (tickm * (sb : Int)).tmod tickm = 0 := Int.mul_tmod_right tickm _
  have wkq0 : IntKind.i64.wrap (tickm * (sb : Int)) = tickm * (sb : Int) := wrap_in (by omega) (by omega)
  have wkq1 : wrap64 (tickm * (sb : Int)) = tickm * (sb : Int) := IntWalk.wrap64_in _ ⟨by omega, by omega⟩
  obtain ⟨kq, ekq⟩ : ∃ z, tickm * (sb : Int) = z := ⟨_, rfl⟩
  rw [ekq] at hq1 hq2 hdv
  have wkq := wkq0.trans ekq
  replace ekq := Lib.hid ekq
  replace hdv := Lib.hid hdv
  clear wkq0 wkq1
  have hlo1 : -200 ≤ lowm := hk2.out.lo1
  have hlo2 : lowm ≤ 0 := hk2.out.lo2
  have hhi1 : 0 ≤ highm := hk.out.h1
  have hhi2 : highm ≤ 1000 := hk.out.h2
  have hmb0 := hm4.out W4 (Below.refl _ _)
  have hmb4 : mb < W4.heap.size := (Array.getElem?_eq_some_iff.1 hmb0).1
  obtain ⟨k0, k1, k2, k3, k4, k5, k6, k7, k8, k9, k10⟩ := row11 hmb0
  have z0 : (fun W : World => W.cell? ⟨mb, 0, none⟩ = some (.string (str codem)) ∧ W.cell? ⟨mb, 1, none⟩ = some (.slice A1m n1m c1m) ∧ W.cell? ⟨mb, 2, none⟩ = some (.int .i64 tickm) ∧ W.cell? ⟨mb, 3, none⟩ = some (.int .i64 lowm) ∧ W.cell? ⟨mb, 4, none⟩ = some (.int .i64 highm) ∧ W.cell? ⟨mb, 5, none⟩ = some (.int .i64 widem) ∧ W.cell? ⟨mb, 6, none⟩ = some (.int .i64 rulem) ∧ W.cell? ⟨mb, 7, none⟩ = some (.int .i64 topm) ∧ W.cell? ⟨mb, 8, none⟩ = some (.int .i64 leastm) ∧ W.cell? ⟨mb, 9, none⟩ = some (.int .i64 partm) ∧ W.cell? ⟨mb, 10, none⟩ = some (.slice A2m n2m c2m)) W4.drew := ⟨k0, k1, k2, k3, k4, k5, k6, k7, k8, k9, k10⟩
  clear k0 k1 k2 k3 k4 k5 k6 k7 k8 k9 k10
  go_upto_region 2 with (fail)
  rw [eW4.out, emb.out]
  clear eW4
  refine wp_region_held_drew (S := (fun W : World => W.cell? ⟨mb, 0, none⟩ = some (.string (str codem)) ∧ W.cell? ⟨mb, 1, none⟩ = some (.slice A1m n1m c1m) ∧ W.cell? ⟨mb, 2, none⟩ = some (.int .i64 tickm) ∧ W.cell? ⟨mb, 3, none⟩ = some (.int .i64 lowm) ∧ W.cell? ⟨mb, 4, none⟩ = some (.int .i64 highm) ∧ W.cell? ⟨mb, 5, none⟩ = some (.int .i64 widem) ∧ W.cell? ⟨mb, 6, none⟩ = some (.int .i64 rulem) ∧ W.cell? ⟨mb, 7, none⟩ = some (.int .i64 topm) ∧ W.cell? ⟨mb, 8, none⟩ = some (.int .i64 leastm) ∧ W.cell? ⟨mb, 9, none⟩ = some (.int .i64 partm) ∧ W.cell? ⟨mb, 10, none⟩ = some (.slice A2m n2m c2m))) (by kernel_rfl) z0 (fun hHeld => ?_)
  refine wpAnyH_take (i := 0) (v := .pointer (some ⟨mb, 2, none⟩)) rfl (by kernel_rfl) (by kernel_rfl) (by kernel_rfl) (fun _ _ _ h => h) (Or.inl ⟨by kernel_rfl, fun W hSw => ?_⟩) (by assumption) ?_
  · (try dsimp only at hSw)
    go_simp
  (try simp only [Act.put, List.setIfInBounds_toArray, List.set_cons_zero, List.set_cons_succ])
  refine wpAnyH_take (i := 1) (v := .int .i64 tickm) rfl (by kernel_rfl) (by kernel_rfl) (by kernel_rfl) (fun _ _ _ h => h) (Or.inl ⟨by kernel_rfl, fun W hSw => ?_⟩) (by assumption) ?_
  · (try dsimp only at hSw)
    go_simp
  (try simp only [Act.put, List.setIfInBounds_toArray, List.set_cons_zero, List.set_cons_succ])
  refine wpAnyH_take (i := 2) (v := .int .i64 by0) rfl (by kernel_rfl) (by kernel_rfl) (by kernel_rfl) (fun _ _ _ h => h) (Or.inl ⟨by kernel_rfl, fun W hSw => ?_⟩) (by assumption) ?_
  · (try dsimp only at hSw)
    go_simp
  (try simp only [Act.put, List.setIfInBounds_toArray, List.set_cons_zero, List.set_cons_succ])
  refine wpAnyH_ready (rs := [3]) (by kernel_rfl) (by simp) ?_
  refine AllReadyH.cons rfl (fun K hK => ?_) AllReadyH.nil
  go_simp
  refine (HWby.out _).mono ?_
  rintro e ux ⟨rfl, eux⟩
  obtain rfl := eux.symm
  go_wp2_with fail
  refine hK.out _ _ z0 (fun hHeld => ?_)
  clear hK K
  (try simp only [Act.put, List.setIfInBounds_toArray, List.set_cons_zero, List.set_cons_succ])
  refine wpAnyH_take (i := 4) (v := .int .i64 kq) rfl (by kernel_rfl) (by kernel_rfl) (by kernel_rfl) (fun _ _ _ h => h) (Or.inl ⟨by kernel_rfl, fun W hSw => ?_⟩) (by assumption) ?_
  · (try dsimp only at hSw)
    go_simp
  (try simp only [Act.put, List.setIfInBounds_toArray, List.set_cons_zero, List.set_cons_succ])
  refine wpAnyH_take (i := 5) (v := .int .i64 kq) rfl (by kernel_rfl) (by kernel_rfl) (by kernel_rfl) (fun _ _ _ h => h) (Or.inl ⟨by kernel_rfl, fun W hSw => ?_⟩) (by assumption) ?_
  · (try dsimp only at hSw)
    go_simp
  (try simp only [Act.put, List.setIfInBounds_toArray, List.set_cons_zero, List.set_cons_succ])
  refine wpAnyH_done (by kernel_rfl) ?_ _
  (try simp only [List.getElem_toArray, List.getElem_cons_succ, List.getElem_cons_zero, Act.put, List.setIfInBounds_toArray, List.set_cons_zero, List.set_cons_succ])
  clear hHeld z0
  -- q, a box of its own
  have b45 : Below W4.heap.size W4 W4.drew := (Below.refl _ W4).drew
  obtain ⟨W5, eW5⟩ : ∃ W, W4.drew = W := ⟨_, rfl⟩
  rw [eW5] at b45 ⊢
  have hm5 := pd_blk' hmb0 b45
  obtain ⟨k0, k1, k2, k3, k4, k5, k6, k7, k8, k9, k10⟩ := row11 hm5
  obtain ⟨mq, emq⟩ : ∃ x, W5.heap.size = x := ⟨_, rfl⟩
  obtain ⟨W6, eW6⟩ : ∃ W, W5.alloc (.cells #[.string (str codem), .slice A1m n1m c1m, .int .i64 tickm, .int .i64 lowm, .int .i64 highm, .int .i64 widem, .int .i64 rulem, .int .i64 topm, .int .i64 leastm, .int .i64 partm, .slice A2m n2m c2m] 25) = W := ⟨_, rfl⟩
  have b56 : Below W5.heap.size W5 W6 := by rw [← eW6]; exact (Below.refl _ W5).alloc (Nat.le_refl _) _
  have hq6 : W6.heap[mq]? = some (.cells #[.string (str codem), .slice A1m n1m c1m, .int .i64 tickm, .int .i64 lowm, .int .i64 highm, .int .i64 widem, .int .i64 rulem, .int .i64 topm, .int .i64 leastm, .int .i64 partm, .slice A2m n2m c2m] 25 (0, 0)) := by rw [← eW6, ← emq]; exact heap_alloc_new W5 _
  have hm6 := pd_blk' hm5 b56
  have hmq : mb < mq := by rw [← emq]; exact (Array.getElem?_eq_some_iff.1 hm5).1
  have hmq4 : W4.heap.size ≤ mq := by rw [← emq]; exact b45.size
  have hmq6 : mq < W6.heap.size := (Array.getElem?_eq_some_iff.1 hq6).1
  have b46 : Below W4.heap.size W4 W6 := below_top b45 b56
  replace eW6 := Lib.hid eW6
  replace emq := Lib.hid emq
  clear eW5 b45 b56 hm5
  go_upto_region 4 with (fail)
  rw [eW6.out, emq.out]
  clear k0 k1 k2 k3 k4 k5 k6 k7 k8 k9 k10 eW6 emq
  -- Low and High of q
  obtain ⟨loq, elo⟩ : ∃ z, lowm + kq = z := ⟨_, rfl⟩
  obtain ⟨hiq, ehi⟩ : ∃ z, highm + kq = z := ⟨_, rfl⟩
  have wlo : IntKind.i64.wrap (lowm + kq) = loq := by rw [elo]; exact wrap_in (by omega) (by omega)
  have whi : IntKind.i64.wrap (highm + kq) = hiq := by rw [ehi]; exact wrap_in (by omega) (by omega)
  have lq1 : -200 ≤ loq := by omega
  have lq2 : loq ≤ 5000 := by omega
  have hqq1 : 0 ≤ hiq := by omega
  have hqq2 : hiq ≤ 6000 := by omega
  obtain ⟨k0, k1, k2, k3, k4, k5, k6, k7, k8, k9, k10⟩ := row11 hm6
  have q3 := (row11 hq6).2.2.2.1
  have s3 := heap_setCell_same W6 mq 3 _ 25 (.int .i64 loq) hq6
  have q4 := (row11 s3).2.2.2.2.1
  have s4 := heap_setCell_same _ mq 4 _ 25 (.int .i64 hiq) s3
  have fz3 := Lib.frozen_of_heap hq6 3
  have fz4 := Lib.frozen_of_heap hq6 4
  have on7 := (set_only W6 mq 3 (.int .i64 loq)).trans (set_only _ mq 4 (.int .i64 hiq))
  obtain ⟨W7, eW7⟩ : ∃ W, ((W6.setCell ⟨mq, 3, none⟩ (.int .i64 loq)).setCell ⟨mq, 4, none⟩ (.int .i64 hiq)).drew = W := ⟨_, rfl⟩
  have s7 : W7.heap[mq]? = some (.cells #[.string (str codem), .slice A1m n1m c1m, .int .i64 tickm, .int .i64 loq, .int .i64 hiq, .int .i64 widem, .int .i64 rulem, .int .i64 topm, .int .i64 leastm, .int .i64 partm, .slice A2m n2m c2m] 25 (0, 0)) := by rw [← eW7]; exact s4
  have b47 : Below W4.heap.size W4 W7 := by rw [← eW7]; exact (b46.trans (on7.below b46.size (fun k hk e => by omega))).drew
  replace s7 := Lib.hid s7
  replace b47 := Lib.hid b47
  replace eW7 := Lib.hid eW7
  replace elo := Lib.hid elo
  replace ehi := Lib.hid ehi
  clear s3 s4 on7 b46 hq6
  go_region
  rw [eW7.out]
  clear k0 k1 k2 k3 k4 k5 k6 k7 k8 k9 k10 q3 q4 fz3 fz4 wlo whi eW7 hm6
  -- Settle of q, nothing at first
  have fz10 := Lib.frozen_of_heap s7.out 10
  have q10 := (row11 s7.out).2.2.2.2.2.2.2.2.2.2
  have s8 := heap_setCell_same W7 mq 10 _ 25 (.slice none 0 0) s7.out
  have b48' : Below W4.heap.size W4 (W7.setCell ⟨mq, 10, none⟩ (.slice none 0 0)) := b47.out.trans ((set_only W7 mq 10 _).below b47.out.size (fun k hk e => by omega))
  have hmq7 : mq < W7.heap.size := (Array.getElem?_eq_some_iff.1 s7.out).1
  have on8 := (set_only W7 mq 10 (.slice none 0 0)).size
  obtain ⟨W8, eW8⟩ : ∃ W, W7.setCell ⟨mq, 10, none⟩ (.slice none 0 0) = W := ⟨_, rfl⟩
  rw [eW8] at s8 b48' on8
  have s8h : Hid (W8.heap[mq]? = some (.cells #[.string (str codem), .slice A1m n1m c1m, .int .i64 tickm, .int .i64 loq, .int .i64 hiq, .int .i64 widem, .int .i64 rulem, .int .i64 topm, .int .i64 leastm, .int .i64 partm, .slice none 0 0] 25 (0, 0))) := Lib.hid s8
  have b48 := Lib.hid b48'
  have hOkS : Hid (∀ W, Below W4.heap.size W4 W → Nums W A2m n2m Rm) := Lib.hid (fun W b => (hOk4.out W b).settle)
  have hRb : Hid (∀ i, i < n1m → 0 ≤ Rm i ∧ Rm i ≤ 1000) := Lib.hid hk2.out.r
  have hn2 : Hid (n2m = n1m) := Lib.hid hk.out.n
  have hn16 : n1m ≤ 6 := hk.out.cnt.2.1
  have hn26 : n2m ≤ 6 := by have := hn2.out; omega
  have own0 : Hid (Own fI 2 W8 (mq + 1) (.slice none 0 0) (highS Rm kq 0)) := Lib.hid (own_nil (fm := fI) 2 W8 (mq + 1))
  have hmr0 : mq + 1 ≤ W8.heap.size := by omega
  replace eW8 := Lib.hid eW8
  clear s7 b47 s8 b48' on8
  go_upto_region 6 with (fail)
  rw [eW8.out]
  clear fz10 q10 eW8
  go_wp2_with fail
  go_loopw [12] (fun iv wr => ∃ (k : Nat) (vv : Value), iv = .int .i64 (k : Int) ∧ k ≤ n2m ∧ mq + 1 ≤ wr.heap.size ∧ Hid (wr.heap[mq]? = some (.cells #[.string (str codem), .slice A1m n1m c1m, .int .i64 tickm, .int .i64 loq, .int .i64 hiq, .int .i64 widem, .int .i64 rulem, .int .i64 topm, .int .i64 leastm, .int .i64 partm, vv] 25 (0, 0))) ∧ Hid (Own fI 2 wr (mq + 1) vv (highS Rm kq k)) ∧ Hid (Below W4.heap.size W4 wr)) (fun iv _ => n2m - (intOf iv).toNat)
  case atStart => exact ⟨0, .slice none 0 0, rfl, by omega, hmr0, s8h, own0, b48⟩
  case round =>
    clear s8h own0 b48 hmr0
    obtain ⟨k, vv, rfl, hkl, hmr, hq, hO, hB⟩ := hrel
    obtain ⟨k0, k1, k2, k3, k4, k5, k6, k7, k8, k9, k10⟩ := row11 (hm4.out wr hB.out)
    by_cases hlt : k < n2m
    · have d1 : decide ((k : Int) < (n2m : Int)) = true := decide_eq_true (by omega)
      have d3 : (k : Int) < (n2m : Int) := by omega
      obtain ⟨sb0, so, rfl, nk, -⟩ := hOkS.out wr hB.out k hlt
      obtain ⟨rb1, rb2⟩ := hRb.out k (by have := hn2.out; omega)
      have hsn := highS_succ Rm kq k
      obtain ⟨rk, erk⟩ : ∃ z, Rm k = z := ⟨_, rfl⟩
      rw [erk] at nk rb1 rb2 hsn
      obtain ⟨rq, erq⟩ : ∃ z, rk + kq = z := ⟨_, rfl⟩
      rw [erq] at hsn
      have wrq : IntKind.i64.wrap (rk + kq) = rq := by rw [erq]; exact wrap_in (by omega) (by omega)
      have vq10 := (row11 hq.out).2.2.2.2.2.2.2.2.2.2
      have hsb : sb0 < mq := by
        obtain ⟨b', o', e', c', -⟩ := hOkS.out W4 (Below.refl _ _) k hlt
        injection e' with e'
        injection e' with e1 e2
        have := World.block_lt_of_cell? W4 _ c'
        rw [← e1] at this
        exact Nat.lt_of_lt_of_le this hmq4
      have vb10 : wr.cell? ⟨mb, 10, none⟩ = some (.slice (some ⟨sb0, so, none⟩) n2m c2m) := k10
      have hQ10 : Hid (∀ W, Below (mq + 1) wr W → W.cell? ⟨mq, 10, none⟩ = some vv) := Lib.hid (fun W b => (b.cell (p := ⟨mq, 10, none⟩) (by show mq < mq + 1; omega)).trans vq10)
      have hSk : Hid (∀ W, Below mq wr W → (fun W : World => W.cell? ⟨mb, 10, none⟩ = some (.slice (some ⟨sb0, so, none⟩) n2m c2m) ∧ W.cell? ⟨sb0, so + k, none⟩ = some (.int .i64 rk) ∧ Below mq wr W) W) := Lib.hid (fun W b => ⟨(b.cell (p := ⟨mb, 10, none⟩) (by show mb < mq; omega)).trans vb10, (b.cell (p := ⟨sb0, so + k, none⟩) (by show sb0 < mq; omega)).trans nk, b⟩)
      have z0 : (fun W : World => W.cell? ⟨mb, 10, none⟩ = some (.slice (some ⟨sb0, so, none⟩) n2m c2m) ∧ W.cell? ⟨sb0, so + k, none⟩ = some (.int .i64 rk) ∧ Below mq wr W) wr.drew := hSk.out _ (Below.refl _ wr).drew
      replace erk := Lib.hid erk
      replace erq := Lib.hid erq
      replace hsn := Lib.hid hsn
      go_wp2_with fail
      clear k0 k1 k2 k3 k4 k5 k6 k7 k8 k9 k10 vq10 vb10 nk
      refine wp_region_held_drew (S := (fun W : World => W.cell? ⟨mb, 10, none⟩ = some (.slice (some ⟨sb0, so, none⟩) n2m c2m) ∧ W.cell? ⟨sb0, so + k, none⟩ = some (.int .i64 rk) ∧ Below mq wr W)) (by kernel_rfl) z0 (fun hHeld => ?_)
      refine wpAnyH_take (i := 0) (v := .pointer (some ⟨mq, 10, none⟩)) rfl (by kernel_rfl) (by kernel_rfl) (by kernel_rfl) (fun _ _ _ h => h) (Or.inl ⟨by kernel_rfl, fun W hSw => ?_⟩) (by assumption) ?_
      · (try dsimp only at hSw)
        go_simp
      (try simp only [Act.put, List.setIfInBounds_toArray, List.set_cons_zero, List.set_cons_succ])
      refine wpAnyH_take (i := 2) (v := .pointer (some ⟨mb, 10, none⟩)) rfl (by kernel_rfl) (by kernel_rfl) (by kernel_rfl) (fun _ _ _ h => h) (Or.inl ⟨by kernel_rfl, fun W hSw => ?_⟩) (by assumption) ?_
      · (try dsimp only at hSw)
        go_simp
      (try simp only [Act.put, List.setIfInBounds_toArray, List.set_cons_zero, List.set_cons_succ])
      refine wpAnyH_take (i := 3) (v := .slice (some ⟨sb0, so, none⟩) n2m c2m) rfl (by kernel_rfl) (by kernel_rfl) (by kernel_rfl) (fun _ _ _ h => h) (Or.inl ⟨by kernel_rfl, fun W hSw => ?_⟩) (by assumption) ?_
      · (try dsimp only at hSw)
        go_simp
      (try simp only [Act.put, List.setIfInBounds_toArray, List.set_cons_zero, List.set_cons_succ])
      refine wpAnyH_take (i := 4) (v := .int .i64 (k : Int)) rfl (by kernel_rfl) (by kernel_rfl) (by kernel_rfl) (fun _ _ _ h => h) (Or.inl ⟨by kernel_rfl, fun W hSw => ?_⟩) (by assumption) ?_
      · (try dsimp only at hSw)
        go_simp
      (try simp only [Act.put, List.setIfInBounds_toArray, List.set_cons_zero, List.set_cons_succ])
      refine wpAnyH_take (i := 5) (v := .pointer (some ⟨sb0, so + k, none⟩)) rfl (by kernel_rfl) (by kernel_rfl) (by kernel_rfl) (fun _ _ _ h => h) (Or.inl ⟨by kernel_rfl, fun W hSw => ?_⟩) (by assumption) ?_
      · (try dsimp only at hSw)
        go_simp
      (try simp only [Act.put, List.setIfInBounds_toArray, List.set_cons_zero, List.set_cons_succ])
      refine wpAnyH_take (i := 6) (v := .int .i64 rk) rfl (by kernel_rfl) (by kernel_rfl) (by kernel_rfl) (fun _ _ _ h => h) (Or.inl ⟨by kernel_rfl, fun W hSw => ?_⟩) (by assumption) ?_
      · (try dsimp only at hSw)
        go_simp
      (try simp only [Act.put, List.setIfInBounds_toArray, List.set_cons_zero, List.set_cons_succ])
      refine wpAnyH_take (i := 7) (v := .int .i64 kq) rfl (by kernel_rfl) (by kernel_rfl) (by kernel_rfl) (fun _ _ _ h => h) (Or.inl ⟨by kernel_rfl, fun W hSw => ?_⟩) (by assumption) ?_
      · (try dsimp only at hSw)
        go_simp
      (try simp only [Act.put, List.setIfInBounds_toArray, List.set_cons_zero, List.set_cons_succ])
      refine wpAnyH_take (i := 8) (v := .int .i64 rq) rfl (by kernel_rfl) (by kernel_rfl) (by kernel_rfl) (fun _ _ _ h => h) (Or.inl ⟨by kernel_rfl, fun W hSw => ?_⟩) (by assumption) ?_
      · (try dsimp only at hSw)
        go_simp
      (try simp only [Act.put, List.setIfInBounds_toArray, List.set_cons_zero, List.set_cons_succ])
      refine wpAnyH_ready (rs := [1, 9]) (by kernel_rfl) (by simp) ?_
      refine AllReadyH.cons rfl (fun K hK => ?_) (AllReadyH.cons rfl (fun K hK => ?_) AllReadyH.nil)
      · have cq := hQ10.out _ (Below.refl _ wr).drew
        go_simp
        clear cq
        refine hK.out _ _ z0 (fun hHeld => ?_)
        clear hK K
        (try simp only [Act.put, List.setIfInBounds_toArray, List.set_cons_zero, List.set_cons_succ])
        refine wpAnyH_ready (rs := [9]) (by kernel_rfl) (by simp) ?_
        refine AllReadyH.cons rfl (fun K hK => ?_) AllReadyH.nil
        go_simp
        have b1 : Below wr.heap.size wr (wr.alloc (.cells #[.int .i64 rq] 2)).drew := ((Below.refl _ wr).alloc (Nat.le_refl _) _).drew
        have hl1 := i_lit wr rq 2
        have hO1 := (hO.out.below ((Below.refl _ wr).alloc (Nat.le_refl _) (.cells #[.int .i64 rq] 2)))
        obtain ⟨U1, eU1⟩ : ∃ W, (wr.alloc (.cells #[.int .i64 rq] 2)).drew = W := ⟨_, rfl⟩
        have hl2 : HV fI U1 (some ⟨wr.heap.size, 0, none⟩) 1 [rq] := by rw [← eU1]; exact hl1.below (Below.refl _ _).drew
        have hO2 : Own fI 2 U1 (mq + 1) vv (highS Rm kq k) := by rw [← eU1]; exact hO1.below (Below.refl _ _).drew
        rw [eU1] at b1 ⊢
        have z1 := hSk.out U1 (b1.mono (by omega))
        clear eU1 hl1 hO1
        refine hK.out _ _ z1 (fun hHeld => ?_)
        clear hK K
        (try simp only [Act.put, List.setIfInBounds_toArray, List.set_cons_zero, List.set_cons_succ])
        refine wpAnyH_ready (rs := [10]) (by kernel_rfl) (by simp) ?_
        refine AllReadyH.cons rfl (fun K hK => ?_) AllReadyH.nil
        rw [if_pos (by kernel_rfl)]
        refine wp_onto_g (fm := fI) (T := 2) (.tmp 48) (.tmp 56) 23 rfl (mq + 1) j0 (.int .i64 0) 8 Try.underlying23 hj0 hy0 hy1 hy2 rfl (by omega) vv (highS Rm kq k) (by rfl) hO2 (some ⟨wr.heap.size, 0, none⟩) 1 1 [rq] (by rfl) hl2 (fun e => by cases e) (by rw [highS_len]; simp; omega) (Nat.le_trans hmr (by have := b1.size; omega)) (fun v2 U2 E2 G2 O2 => ?_)
        have b2 : Below (mq + 1) wr U2 := (b1.mono hmr).grown G2 (by have := b1.size; omega) (fun q hq => (hO2.lt q hq).1)
        have z2 := hSk.out U2 (b2.mono (by omega))
        have hqU := (b2.block mq (by omega)).trans hq.out
        have fzU := Lib.frozen_of_heap hqU 10
        have cU := hQ10.out U2 b2
        have hlen2 : (highS Rm kq k ++ [rq]).length = k + 1 := by rw [List.length_append, highS_len]; rfl
        obtain ⟨Ax, cx, ev2, -⟩ := E2.slice
        rw [hlen2] at ev2
        subst ev2
        clear G2 O2
        refine hK.out _ _ z2 (fun hHeld => ?_)
        clear hK K
        (try simp only [Act.put, List.setIfInBounds_toArray, List.set_cons_zero, List.set_cons_succ])
        refine wpAnyH_take (i := 11) (v := .pointer (some ⟨mq, 10, none⟩)) rfl (by kernel_rfl) (by kernel_rfl) (by kernel_rfl) (fun _ _ _ h => h) (Or.inl ⟨by kernel_rfl, fun W hSw => ?_⟩) (by assumption) ?_
        · (try dsimp only at hSw)
          go_simp
        (try simp only [Act.put, List.setIfInBounds_toArray, List.set_cons_zero, List.set_cons_succ])
        refine wpAnyH_ready (rs := [12]) (by kernel_rfl) (by simp) ?_
        refine AllReadyH.cons rfl (fun K hK => ?_) AllReadyH.nil
        go_simp
        have on3 := set_only U2 mq 10 (.slice Ax (k + 1) cx)
        have hq3 := heap_setCell_same U2 mq 10 _ 25 (.slice Ax (k + 1) cx) hqU
        have hO3 := E2.only on3 (fun q hq e => by have := (E2.lt q hq).1; omega)
        have b3 : Below W4.heap.size W4 (U2.setCell ⟨mq, 10, none⟩ (.slice Ax (k + 1) cx)) := (hB.out.trans (b2.mono (by omega))).trans (on3.below (Nat.le_trans hB.out.size b2.size) (fun k hk e => by omega))
        have hm3 : mq + 1 ≤ (U2.setCell ⟨mq, 10, none⟩ (.slice Ax (k + 1) cx)).heap.size := Nat.le_trans (Nat.le_trans hmr b2.size) on3.size
        obtain ⟨U3, eU3⟩ : ∃ W, U2.setCell ⟨mq, 10, none⟩ (.slice Ax (k + 1) cx) = W := ⟨_, rfl⟩
        rw [eU3] at hq3 hO3 b3 hm3 on3 ⊢
        have z3 : (fun W : World => W.cell? ⟨mb, 10, none⟩ = some (.slice (some ⟨sb0, so, none⟩) n2m c2m) ∧ W.cell? ⟨sb0, so + k, none⟩ = some (.int .i64 rk) ∧ Below mq wr W) U3 := hSk.out U3 ((b2.mono (by omega)).trans (on3.below (by have := b2.size; omega) (fun k hk e => by omega)))
        refine hK.out _ _ z3 (fun hHeld => ?_)
        clear hK K
        (try simp only [Act.put, List.setIfInBounds_toArray, List.set_cons_zero, List.set_cons_succ])
        refine wpAnyH_done (by kernel_rfl) ?_ _
        (try simp only [List.getElem_toArray, List.getElem_cons_succ, List.getElem_cons_zero, Act.put, List.setIfInBounds_toArray, List.set_cons_zero, List.set_cons_succ])
        have hk1 : k + 1 ≤ n2m := hlt
        have r3 : Hid (Own fI 2 U3 (mq + 1) (.slice Ax (k + 1) cx) (highS Rm kq (k + 1))) := Lib.hid (by rw [hsn.out]; exact hO3)
        replace hq3 := Lib.hid hq3
        replace b3 := Lib.hid b3
        clear hHeld z0 z1 z2 z3 hSk hQ10 hO hO2 E2 hO3 hqU fzU cU on3 hq eU3 b1 b2 hl2
        go_wp2_with fail
        go_roundw
        case rel => exact ⟨k + 1, .slice Ax (k + 1) cx, by go_num, hk1, hm3, hq3, r3, b3⟩
        case measure => simp [intOf]; omega
      · go_simp
        have b1 : Below wr.heap.size wr (wr.alloc (.cells #[.int .i64 rq] 2)).drew := ((Below.refl _ wr).alloc (Nat.le_refl _) _).drew
        have hl1 := i_lit wr rq 2
        have hO1 := (hO.out.below ((Below.refl _ wr).alloc (Nat.le_refl _) (.cells #[.int .i64 rq] 2)))
        obtain ⟨U1, eU1⟩ : ∃ W, (wr.alloc (.cells #[.int .i64 rq] 2)).drew = W := ⟨_, rfl⟩
        have hl2 : HV fI U1 (some ⟨wr.heap.size, 0, none⟩) 1 [rq] := by rw [← eU1]; exact hl1.below (Below.refl _ _).drew
        have hO2 : Own fI 2 U1 (mq + 1) vv (highS Rm kq k) := by rw [← eU1]; exact hO1.below (Below.refl _ _).drew
        rw [eU1] at b1 ⊢
        have z1 := hSk.out U1 (b1.mono (by omega))
        clear eU1 hl1 hO1
        refine hK.out _ _ z1 (fun hHeld => ?_)
        clear hK K
        (try simp only [Act.put, List.setIfInBounds_toArray, List.set_cons_zero, List.set_cons_succ])
        refine wpAnyH_ready (rs := [1]) (by kernel_rfl) (by simp) ?_
        refine AllReadyH.cons rfl (fun K hK => ?_) AllReadyH.nil
        have cq := hQ10.out _ (b1.mono hmr)
        go_simp
        clear cq
        refine hK.out _ _ z1 (fun hHeld => ?_)
        clear hK K
        (try simp only [Act.put, List.setIfInBounds_toArray, List.set_cons_zero, List.set_cons_succ])
        refine wpAnyH_ready (rs := [10]) (by kernel_rfl) (by simp) ?_
        refine AllReadyH.cons rfl (fun K hK => ?_) AllReadyH.nil
        rw [if_pos (by kernel_rfl)]
        refine wp_onto_g (fm := fI) (T := 2) (.tmp 48) (.tmp 56) 23 rfl (mq + 1) j0 (.int .i64 0) 8 Try.underlying23 hj0 hy0 hy1 hy2 rfl (by omega) vv (highS Rm kq k) (by rfl) hO2 (some ⟨wr.heap.size, 0, none⟩) 1 1 [rq] (by rfl) hl2 (fun e => by cases e) (by rw [highS_len]; simp; omega) (Nat.le_trans hmr (by have := b1.size; omega)) (fun v2 U2 E2 G2 O2 => ?_)
        have b2 : Below (mq + 1) wr U2 := (b1.mono hmr).grown G2 (by have := b1.size; omega) (fun q hq => (hO2.lt q hq).1)
        have z2 := hSk.out U2 (b2.mono (by omega))
        have hqU := (b2.block mq (by omega)).trans hq.out
        have fzU := Lib.frozen_of_heap hqU 10
        have cU := hQ10.out U2 b2
        have hlen2 : (highS Rm kq k ++ [rq]).length = k + 1 := by rw [List.length_append, highS_len]; rfl
        obtain ⟨Ax, cx, ev2, -⟩ := E2.slice
        rw [hlen2] at ev2
        subst ev2
        clear G2 O2
        refine hK.out _ _ z2 (fun hHeld => ?_)
        clear hK K
        (try simp only [Act.put, List.setIfInBounds_toArray, List.set_cons_zero, List.set_cons_succ])
        refine wpAnyH_take (i := 11) (v := .pointer (some ⟨mq, 10, none⟩)) rfl (by kernel_rfl) (by kernel_rfl) (by kernel_rfl) (fun _ _ _ h => h) (Or.inl ⟨by kernel_rfl, fun W hSw => ?_⟩) (by assumption) ?_
        · (try dsimp only at hSw)
          go_simp
        (try simp only [Act.put, List.setIfInBounds_toArray, List.set_cons_zero, List.set_cons_succ])
        refine wpAnyH_ready (rs := [12]) (by kernel_rfl) (by simp) ?_
        refine AllReadyH.cons rfl (fun K hK => ?_) AllReadyH.nil
        go_simp
        have on3 := set_only U2 mq 10 (.slice Ax (k + 1) cx)
        have hq3 := heap_setCell_same U2 mq 10 _ 25 (.slice Ax (k + 1) cx) hqU
        have hO3 := E2.only on3 (fun q hq e => by have := (E2.lt q hq).1; omega)
        have b3 : Below W4.heap.size W4 (U2.setCell ⟨mq, 10, none⟩ (.slice Ax (k + 1) cx)) := (hB.out.trans (b2.mono (by omega))).trans (on3.below (Nat.le_trans hB.out.size b2.size) (fun k hk e => by omega))
        have hm3 : mq + 1 ≤ (U2.setCell ⟨mq, 10, none⟩ (.slice Ax (k + 1) cx)).heap.size := Nat.le_trans (Nat.le_trans hmr b2.size) on3.size
        obtain ⟨U3, eU3⟩ : ∃ W, U2.setCell ⟨mq, 10, none⟩ (.slice Ax (k + 1) cx) = W := ⟨_, rfl⟩
        rw [eU3] at hq3 hO3 b3 hm3 on3 ⊢
        have z3 : (fun W : World => W.cell? ⟨mb, 10, none⟩ = some (.slice (some ⟨sb0, so, none⟩) n2m c2m) ∧ W.cell? ⟨sb0, so + k, none⟩ = some (.int .i64 rk) ∧ Below mq wr W) U3 := hSk.out U3 ((b2.mono (by omega)).trans (on3.below (by have := b2.size; omega) (fun k hk e => by omega)))
        refine hK.out _ _ z3 (fun hHeld => ?_)
        clear hK K
        (try simp only [Act.put, List.setIfInBounds_toArray, List.set_cons_zero, List.set_cons_succ])
        refine wpAnyH_done (by kernel_rfl) ?_ _
        (try simp only [List.getElem_toArray, List.getElem_cons_succ, List.getElem_cons_zero, Act.put, List.setIfInBounds_toArray, List.set_cons_zero, List.set_cons_succ])
        have hk1 : k + 1 ≤ n2m := hlt
        have r3 : Hid (Own fI 2 U3 (mq + 1) (.slice Ax (k + 1) cx) (highS Rm kq (k + 1))) := Lib.hid (by rw [hsn.out]; exact hO3)
        replace hq3 := Lib.hid hq3
        replace b3 := Lib.hid b3
        clear hHeld z0 z1 z2 z3 hSk hQ10 hO hO2 E2 hO3 hqU fzU cU on3 hq eU3 b1 b2 hl2
        go_wp2_with fail
        go_roundw
        case rel => exact ⟨k + 1, .slice Ax (k + 1) cx, by go_num, hk1, hm3, hq3, r3, b3⟩
        case measure => simp [intOf]; omega
    · rename World => wo
      have ek : k = n2m := by omega
      have d1 : decide ((k : Int) < (n2m : Int)) = false := decide_eq_false (by omega)
      have d2 : decide (k < n2m) = false := decide_eq_false hlt
      obtain ⟨Av, cv, evv, hvv, lv, mv, -, -⟩ := hO.out.slice
      rw [highS_len] at evv hvv lv
      subst evv
      have hAO := Lib.hid (below_top hB4.out hB.out)
      have hmW : Hid (∀ W, Below wo.heap.size wo W → W.heap[mb]? = some (.cells #[.string (str codem), .slice A1m n1m c1m, .int .i64 tickm, .int .i64 lowm, .int .i64 highm, .int .i64 widem, .int .i64 rulem, .int .i64 topm, .int .i64 leastm, .int .i64 partm, .slice A2m n2m c2m] 25 (0, 0))) := Lib.hid (fun W b => hm4.out W (below_top hB.out b))
      have hqW : Hid (∀ W, Below wo.heap.size wo W → W.heap[mq]? = some (.cells #[.string (str codem), .slice A1m n1m c1m, .int .i64 tickm, .int .i64 loq, .int .i64 hiq, .int .i64 widem, .int .i64 rulem, .int .i64 topm, .int .i64 leastm, .int .i64 partm, .slice Av k cv] 25 (0, 0))) := Lib.hid (fun W b => pd_blk' hq.out b)
      have hOkW : Hid (∀ W, Below wo.heap.size wo W → PD.Ok ⟨codem, A1m, n1m, c1m, tickm, lowm, highm, widem, rulem, topm, leastm, partm, A2m, n2m, c2m, Qm, Rm⟩ W) := Lib.hid (fun W b => hOk4.out W (below_top hB.out b))
      have hkn : k = n1m := by have := hn2.out; omega
      have hNu : Hid (∀ W, Below wo.heap.size wo W → Nums W Av k (fun i => Rm i + kq)) := Lib.hid (fun W b => nums_same ((hvv.below b).nums (fun x hx => by
        unfold highS at hx
        obtain ⟨j, hj, rfl⟩ := List.mem_map.1 hx
        have hj2 := List.mem_range.1 hj
        obtain ⟨ra1, ra2⟩ := hRb.out j (by omega)
        exact ⟨by omega, by omega⟩)) (fun j hj => highS_get hj))
      have hOkQ : Hid (∀ W, Below wo.heap.size wo W → PD.Ok ⟨codem, A1m, n1m, c1m, tickm, loq, hiq, widem, rulem, topm, leastm, partm, Av, k, cv, Qm, fun i => Rm i + kq⟩ W) := Lib.hid (fun W b => by
        have o := hOkW.out W b
        exact ⟨o.months, hNu.out W b, o.code, o.l1, o.m1, lv, mv, o.tick, ⟨by show _ ≤ loq; omega, by show loq ≤ _; omega⟩, ⟨by show _ ≤ hiq; omega, by show hiq ≤ _; omega⟩, o.wide, o.rule, o.top, o.least, o.part⟩)
      have hcQ : Hid (chk ⟨codem, A1m, n1m, c1m, tickm, loq, hiq, widem, rulem, topm, leastm, partm, Av, k, cv, Qm, fun i => Rm i + kq⟩ = 0) := Lib.hid (by
        have h : chk ⟨codem, A1m, n1m, c1m, tickm, lowm + tickm * (sb : Int), highm + tickm * (sb : Int), widem, rulem, topm, leastm, partm, Av, n1m, cv, Qm, fun i => Rm i + tickm * (sb : Int)⟩ = 0 := hk2.out.shf (sb : Int) Av cv (by omega) (by omega)
        rw [ekq.out, elo.out, ehi.out] at h
        rw [hkn]
        exact h)
      have hcP : Hid (chk ⟨codem, A1m, n1m, c1m, tickm, lowm, highm, widem, rulem, topm, leastm, partm, A2m, n2m, c2m, Qm, Rm⟩ = 0) := Lib.hid hk.out.z
      replace ek := Lib.hid ek
      replace hkn := Lib.hid hkn
      obtain ⟨k0, k1, k2, k3, k4, k5, k6, k7, k8, k9, k10⟩ := row11 (hmW.out wo (Below.refl _ _))
      have hlx : L.length = n := hA.out.1
      have HT : Hid (Calls Try.prog 18 #[.agg #[.string (str codem), .slice A1m n1m c1m, .int .i64 tickm, .int .i64 lowm, .int .i64 highm, .int .i64 widem, .int .i64 rulem, .int .i64 topm, .int .i64 leastm, .int .i64 partm, .slice A2m n2m c2m], .slice A n cap] wo (GaveT 31 wo (topsL tickm (cntL ⟨codem, A1m, n1m, c1m, tickm, lowm, highm, widem, rulem, topm, leastm, partm, A2m, n2m, c2m, Qm, Rm⟩) L))) := Lib.hid (Tops_any ⟨codem, A1m, n1m, c1m, tickm, lowm, highm, widem, rulem, topm, leastm, partm, A2m, n2m, c2m, Qm, Rm⟩ A n cap L wo (Lib.hid (hOkW.out wo (Below.refl _ _))) hk.out.t1 (by have := hk.out.t2; omega) (Lib.hid (hA.out.below hAO.out)) hok (by omega))
      have ht1 := topsL_len tickm (cntL ⟨codem, A1m, n1m, c1m, tickm, lowm, highm, widem, rulem, topm, leastm, partm, A2m, n2m, c2m, Qm, Rm⟩) L
      have ht2 : OkT (topsL tickm (cntL ⟨codem, A1m, n1m, c1m, tickm, lowm, highm, widem, rulem, topm, leastm, partm, A2m, n2m, c2m, Qm, Rm⟩) L) := topsL_ok hk.out.t1 (by have := hk.out.t2; omega)
      have ht3 : ∀ y ∈ topsL tickm (cntL ⟨codem, A1m, n1m, c1m, tickm, lowm, highm, widem, rulem, topm, leastm, partm, A2m, n2m, c2m, Qm, Rm⟩) L, y.Near := topsL_near hk.out.t1 (by have := hk.out.t2; omega)
      obtain ⟨c1', c2', c3', c4', c5'⟩ := hk.out.cnt
      obtain ⟨cn, hcn⟩ : ∃ c, cntL ⟨codem, A1m, n1m, c1m, tickm, lowm, highm, widem, rulem, topm, leastm, partm, A2m, n2m, c2m, Qm, Rm⟩ = c := ⟨_, rfl⟩
      obtain ⟨TL, hTL⟩ : ∃ c, topsL tickm (cntL ⟨codem, A1m, n1m, c1m, tickm, lowm, highm, widem, rulem, topm, leastm, partm, A2m, n2m, c2m, Qm, Rm⟩) L = c := ⟨_, rfl⟩
      rw [hTL] at HT ht1 ht2 ht3
      rw [hcn] at ht1 c3' c4' c5'
      replace c1' : 2 ≤ n1m := c1'
      replace c2' : n1m ≤ 6 := c2'
      replace c3' : n1m ≤ cn := c3'
      have ht5 := Lib.hid (ht1.trans hcn.symm)
      replace hcn := Lib.hid hcn
      replace ht2 := Lib.hid ht2
      replace ht3 := Lib.hid ht3
      clear hTL hlx hA hok hB hq hO hvv hm4 hOk4 hB4 hOkS hRb hNu hn2 hlt hk hk2 hmb0 hmb4
      go_upto_region 10 with (fail)
      go_wp2_with fail
      refine HT.out.mono ?_
      rintro e w5 ⟨v5, rfl, ro, b5⟩
      obtain ⟨A5, c5, rfl, hv5, hn5, hc5, hA5, -⟩ := ro.slice
      rw [ht1] at hv5 hn5 ⊢
      have hB5 := Lib.hid (below_top hAO.out b5)
      have hm5 : Hid (∀ W, Below w5.heap.size w5 W → W.heap[mb]? = some (.cells #[.string (str codem), .slice A1m n1m c1m, .int .i64 tickm, .int .i64 lowm, .int .i64 highm, .int .i64 widem, .int .i64 rulem, .int .i64 topm, .int .i64 leastm, .int .i64 partm, .slice A2m n2m c2m] 25 (0, 0))) := Lib.hid (fun W b => hmW.out W (below_top b5 b))
      have hq5 : Hid (∀ W, Below w5.heap.size w5 W → W.heap[mq]? = some (.cells #[.string (str codem), .slice A1m n1m c1m, .int .i64 tickm, .int .i64 loq, .int .i64 hiq, .int .i64 widem, .int .i64 rulem, .int .i64 topm, .int .i64 leastm, .int .i64 partm, .slice Av k cv] 25 (0, 0))) := Lib.hid (fun W b => hqW.out W (below_top b5 b))
      have hOk5 : Hid (∀ W, Below w5.heap.size w5 W → PD.Ok ⟨codem, A1m, n1m, c1m, tickm, lowm, highm, widem, rulem, topm, leastm, partm, A2m, n2m, c2m, Qm, Rm⟩ W) := Lib.hid (fun W b => hOkW.out W (below_top b5 b))
      have hOkQ5 : Hid (∀ W, Below w5.heap.size w5 W → PD.Ok ⟨codem, A1m, n1m, c1m, tickm, loq, hiq, widem, rulem, topm, leastm, partm, Av, k, cv, Qm, fun i => Rm i + kq⟩ W) := Lib.hid (fun W b => hOkQ.out W (below_top b5 b))
      have hV5 : Hid (∀ W, Below w5.heap.size w5 W → HV fTp W A5 cn TL) := Lib.hid (fun W b => hv5.below b)
      replace hA5 := Lib.hid hA5
      clear k0 k1 k2 k3 k4 k5 k6 k7 k8 k9 k10 HT ro b5 hv5 hmW hqW hOkW hOkQ hAO
      obtain ⟨q0', hq0, hx0, hx1, hx2⟩ := info_parts info_kt
      have own0 := own_empty (fm := fTp) 31 w5 w5.heap.size (Nat.le_refl _)
      have bal : Below w5.heap.size w5 (w5.alloc (.cells #[] 31)) := (Below.refl _ w5).alloc (Nat.le_refl _) _
      have hv0 := hV5.out _ bal
      have sz3 : w5.heap.size ≤ (w5.alloc (.cells #[] 31)).heap.size := bal.size
      have hcn2 : ([] : List Tp).length + cn ≤ 1000000 := by simp; omega
      replace own0 := Lib.hid own0
      replace hv0 := Lib.hid hv0
      replace bal := Lib.hid bal
      go_wp2_with (at_builtin; refine wpList_onto_g (fm := fTp) (T := 31) (by rfl) (.tmp 62) (.tmp 63) 27 (by rfl) w5.heap.size q0' (.agg #[.bool false, .bool false, .int .i64 0, .int .i64 0, .int .i64 0, .int .i64 0]) 40 Try.underlying27 hq0 hx0 hx1 hx2 rfl (by omega) (.slice (some ⟨w5.heap.size, 0, none⟩) 0 0) [] (by rfl) own0.out A5 cn c5 TL (by rfl) hv0.out hA5.out hcn2 sz3 ?_)
      intro v8 w8 r8 g8 o8
      have b58 : Below w5.heap.size w5 w8 := bal.out.grown g8 sz3 (fun q hq => (own0.out.lt q hq).1)
      (try rw [List.nil_append] at r8)
      obtain ⟨gu, cu, cur, ev, hgb, hgl, hgh, -⟩ := r8.open' (by rw [ht1]; omega)
      rw [ht1] at ev
      subst ev
      have r80 : Hid (Own fTp 31 w8 w5.heap.size (.slice (some ⟨gu, 0, none⟩) cn cu) (shiftT kq 0 TL)) := Lib.hid r8
      replace b58 := Lib.hid b58
      have hgm : mb < w5.heap.size := (Array.getElem?_eq_some_iff.1 (hm5.out _ (Below.refl _ _))).1
      have hgq : mq < w5.heap.size := (Array.getElem?_eq_some_iff.1 (hq5.out _ (Below.refl _ _))).1
      clear own0 bal hv0 sz3 hcn2 g8 o8 hgh r8
      go_wp2_with fail
      go_loopw [15] (fun iv wx => ∃ j : Nat, iv = .int .i64 (j : Int) ∧ j ≤ n1m ∧ Hid (Own fTp 31 wx w5.heap.size (.slice (some ⟨gu, 0, none⟩) cn cu) (shiftT kq j TL)) ∧ Hid (Below w5.heap.size w5 wx)) (fun iv _ => n1m - (intOf iv).toNat)
      case atStart => exact ⟨0, rfl, by omega, r80, b58⟩
      case round =>
        clear r80 b58
        obtain ⟨j, rfl, hj, hRi, hBi⟩ := hrel
        obtain ⟨k0, k1, k2, k3, k4, k5, k6, k7, k8, k9, k10⟩ := row11 (hm5.out wr hBi.out)
        by_cases hlt : j < n1m
        · have d1 : decide ((j : Int) < (n1m : Int)) = true := decide_eq_true (by omega)
          have d3 : (j : Int) < (n1m : Int) := by omega
          have hj1 : j + 1 ≤ n1m := hlt
          have dj1 : decide ((j : Int) < (cn : Int)) = true := decide_eq_true (by omega)
          have dj3 : (j : Int) < (cn : Int) := by omega
          have dj4 : j < cn := by omega
          obtain ⟨x, hx⟩ : ∃ x, TL[j]? = some x := ⟨_, List.getElem?_eq_getElem (by omega)⟩
          have hxs := shiftT_next kq hx
          have hxe := shiftT_succ kq hx
          have hxn := ht3.out x (List.mem_of_getElem? hx)
          obtain ⟨xa, xb, xc, xd, xe, xf⟩ := x
          obtain ⟨⟨na1, na2⟩, nb1, nb2⟩ := hxn
          simp only at na1 na2 nb1 nb2
          obtain ⟨zc, ezc⟩ : ∃ z, xc + kq = z := ⟨_, rfl⟩
          obtain ⟨zd, ezd⟩ : ∃ z, xd + kq = z := ⟨_, rfl⟩
          have wzc : IntKind.i64.wrap (xc + kq) = zc := by rw [ezc]; exact wrap_in (by omega) (by omega)
          have wzd : IntKind.i64.wrap (xd + kq) = zd := by rw [ezd]; exact wrap_in (by omega) (by omega)
          replace hxe : (shiftT kq j TL).set j ⟨xa, xb, zc, zd, xe, xf⟩ = shiftT kq (j + 1) TL := by rw [← ezc, ← ezd]; exact hxe
          obtain ⟨-, -, y2, -, yf⟩ := hRi.out.atT' hxs
          have yf2 := yf (j * 6 + 2)
          simp only at y2
          obtain ⟨W2, eW2⟩ : ∃ W, (wr.setCell ⟨gu, j * 6 + 2, none⟩ (.int .i64 zc)).drew = W := ⟨_, rfl⟩
          have hR2 : Own fTp 31 W2 w5.heap.size (.slice (some ⟨gu, 0, none⟩) cn cu) ((shiftT kq j TL).set j ⟨xa, xb, zc, xd, xe, xf⟩) := by
            rw [← eW2]
            exact hRi.out.putT (m := 2) (x' := ⟨xa, xb, zc, xd, xe, xf⟩) (v := .int .i64 zc) hxs (by decide) rfl
          have B2 : Below w5.heap.size w5 W2 := by
            rw [← eW2]
            exact (hBi.out.trans ((set_only wr gu _ _).below (B := w5.heap.size) hBi.out.size (fun k hk e => by omega))).drew
          have hxs2 := set_at (⟨xa, xb, zc, xd, xe, xf⟩ : Tp) hxs
          obtain ⟨-, -, -, y3, yg⟩ := hR2.atT' hxs2
          have yf3 := yg (j * 6 + 3)
          simp only at y3
          obtain ⟨W3, eW3⟩ : ∃ W, (W2.setCell ⟨gu, j * 6 + 3, none⟩ (.int .i64 zd)).drew = W := ⟨_, rfl⟩
          have hR3 : Hid (Own fTp 31 W3 w5.heap.size (.slice (some ⟨gu, 0, none⟩) cn cu) (shiftT kq (j + 1) TL)) := Lib.hid (by
            rw [← eW3, ← hxe]
            have r := hR2.putT (m := 3) (x' := ⟨xa, xb, zc, zd, xe, xf⟩) (v := .int .i64 zd) hxs2 (by decide) rfl
            rw [List.set_set] at r
            exact r)
          have B3 : Hid (Below w5.heap.size w5 W3) := Lib.hid (by
            rw [← eW3]
            exact (B2.trans ((set_only W2 gu _ _).below (B := w5.heap.size) B2.size (fun k hk e => by omega))).drew)
          replace eW2 := Lib.hid eW2
          replace eW3 := Lib.hid eW3
          replace ezc := Lib.hid ezc
          replace ezd := Lib.hid ezd
          replace hx := Lib.hid hx
          clear hxe hxs hxs2 yf yg hR2 B2 hRi hBi hlt
          go_upto_region 15 with (fail)
          go_region
          rw [eW2.out]
          go_upto_region 16 with (fail)
          go_region
          rw [eW3.out]
          clear eW2 eW3 y2 y3 yf2 yf3 k0 k1 k2 k3 k4 k5 k6 k7 k8 k9 k10 wzc wzd
          go_wp2_with fail
          go_roundw
          case rel => exact ⟨j + 1, by go_num, hj1, hR3, B3⟩
          case measure => simp [intOf]; omega
        · rename World => w9
          have ej : j = n1m := by omega
          have d1 : decide ((j : Int) < (n1m : Int)) = false := decide_eq_false (by omega)
          have d2 : decide (j < n1m) = false := decide_eq_false hlt
          have B9 := Lib.hid (below_top hB5.out hBi.out)
          have hm9 : Hid (∀ W, Below w9.heap.size w9 W → W.heap[mb]? = some (.cells #[.string (str codem), .slice A1m n1m c1m, .int .i64 tickm, .int .i64 lowm, .int .i64 highm, .int .i64 widem, .int .i64 rulem, .int .i64 topm, .int .i64 leastm, .int .i64 partm, .slice A2m n2m c2m] 25 (0, 0))) := Lib.hid (fun W b => hm5.out W (below_top hBi.out b))
          have hq9 : Hid (∀ W, Below w9.heap.size w9 W → W.heap[mq]? = some (.cells #[.string (str codem), .slice A1m n1m c1m, .int .i64 tickm, .int .i64 loq, .int .i64 hiq, .int .i64 widem, .int .i64 rulem, .int .i64 topm, .int .i64 leastm, .int .i64 partm, .slice Av k cv] 25 (0, 0))) := Lib.hid (fun W b => hq5.out W (below_top hBi.out b))
          have hV9 : Hid (∀ W, Below w9.heap.size w9 W → HV fTp W A5 cn TL) := Lib.hid (fun W b => hV5.out W (below_top hBi.out b))
          have hOk9 : Hid (∀ W, Below w9.heap.size w9 W → PD.Ok ⟨codem, A1m, n1m, c1m, tickm, lowm, highm, widem, rulem, topm, leastm, partm, A2m, n2m, c2m, Qm, Rm⟩ W) := Lib.hid (fun W b => hOk5.out W (below_top hBi.out b))
          have hOkQ9 : Hid (∀ W, Below w9.heap.size w9 W → PD.Ok ⟨codem, A1m, n1m, c1m, tickm, loq, hiq, widem, rulem, topm, leastm, partm, Av, k, cv, Qm, fun i => Rm i + kq⟩ W) := Lib.hid (fun W b => hOkQ5.out W (below_top hBi.out b))
          have hsl := hRi.out.slice
          obtain ⟨A9', c9', e9', h9', -⟩ := hsl
          rw [shiftT_len, ht1] at e9' h9'
          injection e9' with e91' e92' e93'
          have hU9 : Hid (∀ W, Below w9.heap.size w9 W → HV fTp W (some ⟨gu, 0, none⟩) cn (shiftT kq n1m TL)) := Lib.hid (fun W b => by rw [e91', ← ej]; exact h9'.below b)
          have hOkU : Hid (OkT (shiftT kq n1m TL)) := Lib.hid (shiftT_okT (by omega) ht3.out ht2.out)
          replace ej := Lib.hid ej
          clear hRi hBi h9' e91' e92' e93' hm5 hq5 hV5 hOk5 hOkQ5 hlt
          have HWkn : Hid (∀ W : World, Calls Try.prog 19 #[.int .i64 inst, .int .i64 0, .int .i64 ((cn : Int) - 1)] W fun e w' => e = .returned (.int .i64 (withinN inst (cn - 1) : Int)) ∧ w' = W) := Lib.hid (fun W => by have := Within_any inst (cn - 1) W (by omega) i1 i2; rw [show (((cn - 1) : Nat) : Int) = (cn : Int) - 1 by omega] at this; exact this)
          have hwkn := withinN_le inst (cn - 1)
          obtain ⟨kn, ekn⟩ : ∃ k, withinN inst (cn - 1) = k := ⟨_, rfl⟩
          rw [ekn] at HWkn hwkn
          clear ekn
          have hI64k : I64 (kn : Int) := ⟨by omega, by omega⟩
          have HQ : Hid (∀ s : Nat, quotesQ ⟨codem, A1m, n1m, c1m, tickm, loq, hiq, widem, rulem, topm, leastm, partm, Av, k, cv, Qm, fun i => Rm i + kq⟩ (shiftT kq n1m TL) (kn : Int) (s : Int) = if kn < n1m then (quotesQ ⟨codem, A1m, n1m, c1m, tickm, lowm, highm, widem, rulem, topm, leastm, partm, A2m, n2m, c2m, Qm, Rm⟩ TL (kn : Int) (s : Int)).map (shiftQ kq) else quotesQ ⟨codem, A1m, n1m, c1m, tickm, lowm, highm, widem, rulem, topm, leastm, partm, A2m, n2m, c2m, Qm, Rm⟩ TL (kn : Int) (s : Int)) := Lib.hid (fun s => quotesQ_shift (p := ⟨codem, A1m, n1m, c1m, tickm, lowm, highm, widem, rulem, topm, leastm, partm, A2m, n2m, c2m, Qm, Rm⟩) (q := ⟨codem, A1m, n1m, c1m, tickm, loq, hiq, widem, rulem, topm, leastm, partm, Av, k, cv, Qm, fun i => Rm i + kq⟩) hcP.out hcQ.out rfl ⟨by omega, by omega⟩ rfl rfl elo.out.symm ehi.out.symm hdv.out ht5.out ht3.out kn (s : Int))
          have HA : Hid (∀ (s : Nat) (W : World), s ≤ 2 → Below w9.heap.size w9 W → Calls Try.prog 13 #[.agg #[.string (str codem), .slice A1m n1m c1m, .int .i64 tickm, .int .i64 lowm, .int .i64 highm, .int .i64 widem, .int .i64 rulem, .int .i64 topm, .int .i64 leastm, .int .i64 partm, .slice A2m n2m c2m], .slice A5 cn c5, .int .i64 (kn : Int), .int .i64 (s : Int)] W (OwnQ W.heap.size W (quotesQ ⟨codem, A1m, n1m, c1m, tickm, lowm, highm, widem, rulem, topm, leastm, partm, A2m, n2m, c2m, Qm, Rm⟩ TL (kn : Int) (s : Int)))) := Lib.hid (fun s W hs b => PQuotes_own ⟨codem, A1m, n1m, c1m, tickm, lowm, highm, widem, rulem, topm, leastm, partm, A2m, n2m, c2m, Qm, Rm⟩ A5 cn c5 TL (kn : Int) (s : Int) W (Lib.hid (hOk9.out W b)) (Lib.hid (hV9.out W b)) ht2 hI64k ⟨by omega, by omega⟩ (by omega))
          have HB : Hid (∀ (s : Nat) (W : World), s ≤ 2 → Below w9.heap.size w9 W → Calls Try.prog 13 #[.agg #[.string (str codem), .slice A1m n1m c1m, .int .i64 tickm, .int .i64 loq, .int .i64 hiq, .int .i64 widem, .int .i64 rulem, .int .i64 topm, .int .i64 leastm, .int .i64 partm, .slice Av k cv], .slice (some ⟨gu, 0, none⟩) cn cu, .int .i64 (kn : Int), .int .i64 (s : Int)] W (OwnQ W.heap.size W (if kn < n1m then (quotesQ ⟨codem, A1m, n1m, c1m, tickm, lowm, highm, widem, rulem, topm, leastm, partm, A2m, n2m, c2m, Qm, Rm⟩ TL (kn : Int) (s : Int)).map (shiftQ kq) else quotesQ ⟨codem, A1m, n1m, c1m, tickm, lowm, highm, widem, rulem, topm, leastm, partm, A2m, n2m, c2m, Qm, Rm⟩ TL (kn : Int) (s : Int)))) := Lib.hid (fun s W hs b => by
            rw [← HQ.out s]
            exact PQuotes_own ⟨codem, A1m, n1m, c1m, tickm, loq, hiq, widem, rulem, topm, leastm, partm, Av, k, cv, Qm, fun i => Rm i + kq⟩ (some ⟨gu, 0, none⟩) cn cu (shiftT kq n1m TL) (kn : Int) (s : Int) W (Lib.hid (hOkQ9.out W b)) (Lib.hid (hU9.out W b)) hOkU hI64k ⟨by omega, by omega⟩ (by omega))
          have hlL : ∀ s : Nat, (quotesQ ⟨codem, A1m, n1m, c1m, tickm, lowm, highm, widem, rulem, topm, leastm, partm, A2m, n2m, c2m, Qm, Rm⟩ TL (kn : Int) (s : Int)).length ≤ 100 := fun s => quotesQ_len
          have hlO : ∀ s : Nat, ∀ x ∈ quotesQ ⟨codem, A1m, n1m, c1m, tickm, lowm, highm, widem, rulem, topm, leastm, partm, A2m, n2m, c2m, Qm, Rm⟩ TL (kn : Int) (s : Int), I64 x.p := fun s x hx => (quotesQ_ok (p := ⟨codem, A1m, n1m, c1m, tickm, lowm, highm, widem, rulem, topm, leastm, partm, A2m, n2m, c2m, Qm, Rm⟩) ht2.out (kn : Int) (s : Int) x hx).p
          obtain ⟨QL, eQL⟩ : ∃ f : Nat → List Qt, (fun s : Nat => quotesQ ⟨codem, A1m, n1m, c1m, tickm, lowm, highm, widem, rulem, topm, leastm, partm, A2m, n2m, c2m, Qm, Rm⟩ TL (kn : Int) (s : Int)) = f := ⟨_, rfl⟩
          replace HA : Hid (∀ (s : Nat) (W : World), s ≤ 2 → Below w9.heap.size w9 W → Calls Try.prog 13 #[.agg #[.string (str codem), .slice A1m n1m c1m, .int .i64 tickm, .int .i64 lowm, .int .i64 highm, .int .i64 widem, .int .i64 rulem, .int .i64 topm, .int .i64 leastm, .int .i64 partm, .slice A2m n2m c2m], .slice A5 cn c5, .int .i64 (kn : Int), .int .i64 (s : Int)] W (OwnQ W.heap.size W (QL s))) := Lib.hid (by rw [← eQL]; exact HA.out)
          replace HB : Hid (∀ (s : Nat) (W : World), s ≤ 2 → Below w9.heap.size w9 W → Calls Try.prog 13 #[.agg #[.string (str codem), .slice A1m n1m c1m, .int .i64 tickm, .int .i64 loq, .int .i64 hiq, .int .i64 widem, .int .i64 rulem, .int .i64 topm, .int .i64 leastm, .int .i64 partm, .slice Av k cv], .slice (some ⟨gu, 0, none⟩) cn cu, .int .i64 (kn : Int), .int .i64 (s : Int)] W (OwnQ W.heap.size W (if kn < n1m then (QL s).map (shiftQ kq) else QL s))) := Lib.hid (by rw [← eQL]; exact HB.out)
          replace hlL : Hid (∀ s : Nat, (QL s).length ≤ 100) := Lib.hid (by rw [← eQL]; exact hlL)
          replace hlO : Hid (∀ s : Nat, ∀ x ∈ QL s, I64 x.p) := Lib.hid (by rw [← eQL]; exact hlO)
          have hS : Hid (∀ W, Below w9.heap.size w9 W → (fun W : World => W.cell? ⟨mb, 0, none⟩ = some (.string (str codem)) ∧ W.cell? ⟨mb, 1, none⟩ = some (.slice A1m n1m c1m) ∧ W.cell? ⟨mb, 2, none⟩ = some (.int .i64 tickm) ∧ W.cell? ⟨mb, 3, none⟩ = some (.int .i64 lowm) ∧ W.cell? ⟨mb, 4, none⟩ = some (.int .i64 highm) ∧ W.cell? ⟨mb, 5, none⟩ = some (.int .i64 widem) ∧ W.cell? ⟨mb, 6, none⟩ = some (.int .i64 rulem) ∧ W.cell? ⟨mb, 7, none⟩ = some (.int .i64 topm) ∧ W.cell? ⟨mb, 8, none⟩ = some (.int .i64 leastm) ∧ W.cell? ⟨mb, 9, none⟩ = some (.int .i64 partm) ∧ W.cell? ⟨mb, 10, none⟩ = some (.slice A2m n2m c2m) ∧ W.cell? ⟨mq, 0, none⟩ = some (.string (str codem)) ∧ W.cell? ⟨mq, 1, none⟩ = some (.slice A1m n1m c1m) ∧ W.cell? ⟨mq, 2, none⟩ = some (.int .i64 tickm) ∧ W.cell? ⟨mq, 3, none⟩ = some (.int .i64 loq) ∧ W.cell? ⟨mq, 4, none⟩ = some (.int .i64 hiq) ∧ W.cell? ⟨mq, 5, none⟩ = some (.int .i64 widem) ∧ W.cell? ⟨mq, 6, none⟩ = some (.int .i64 rulem) ∧ W.cell? ⟨mq, 7, none⟩ = some (.int .i64 topm) ∧ W.cell? ⟨mq, 8, none⟩ = some (.int .i64 leastm) ∧ W.cell? ⟨mq, 9, none⟩ = some (.int .i64 partm) ∧ W.cell? ⟨mq, 10, none⟩ = some (.slice Av k cv)) W) := Lib.hid (fun W b => by
            obtain ⟨a0, a1, a2, a3, a4, a5, a6, a7, a8, a9, a10⟩ := row11 (hm9.out W b)
            obtain ⟨b0, b1, b2, b3, b4, b5, b6, b7, b8, b9, b10⟩ := row11 (hq9.out W b)
            exact ⟨a0, a1, a2, a3, a4, a5, a6, a7, a8, a9, a10, b0, b1, b2, b3, b4, b5, b6, b7, b8, b9, b10⟩)
          have B99 := Lib.hid (Below.refl w9.heap.size w9)
          clear eQL HQ hV9 hU9 hOk9 hOkQ9 hOkU ht5 ht2 ht3 hcP hcQ hA5 hq9
          go_wp2_with fail
          refine (HWkn.out _).mono ?_
          rintro e ux ⟨rfl, eux⟩
          obtain rfl := eux.symm
          clear HWkn k0 k1 k2 k3 k4 k5 k6 k7 k8 k9 k10
          go_wp2_with fail
          go_loopw [17] (fun iv wx => ∃ s : Nat, iv = .int .i64 (s : Int) ∧ 1 ≤ s ∧ s ≤ 3 ∧ Hid (Below w9.heap.size w9 wx)) (fun iv _ => (3 - intOf iv).toNat)
          case atStart => exact ⟨1, rfl, by omega, by omega, B99⟩
          case round =>
            clear B99
            obtain ⟨s, rfl, hs1, hs3, hB⟩ := hrel
            by_cases hs2 : s ≤ 2
            · have d1 : decide ((s : Int) ≤ 2) = true := decide_eq_true (by omega)
              have d2 : decide (s ≤ 2) = true := decide_eq_true (by omega)
              have d3 : (s : Int) ≤ 2 := by omega
              have z0 : (fun W : World => W.cell? ⟨mb, 0, none⟩ = some (.string (str codem)) ∧ W.cell? ⟨mb, 1, none⟩ = some (.slice A1m n1m c1m) ∧ W.cell? ⟨mb, 2, none⟩ = some (.int .i64 tickm) ∧ W.cell? ⟨mb, 3, none⟩ = some (.int .i64 lowm) ∧ W.cell? ⟨mb, 4, none⟩ = some (.int .i64 highm) ∧ W.cell? ⟨mb, 5, none⟩ = some (.int .i64 widem) ∧ W.cell? ⟨mb, 6, none⟩ = some (.int .i64 rulem) ∧ W.cell? ⟨mb, 7, none⟩ = some (.int .i64 topm) ∧ W.cell? ⟨mb, 8, none⟩ = some (.int .i64 leastm) ∧ W.cell? ⟨mb, 9, none⟩ = some (.int .i64 partm) ∧ W.cell? ⟨mb, 10, none⟩ = some (.slice A2m n2m c2m) ∧ W.cell? ⟨mq, 0, none⟩ = some (.string (str codem)) ∧ W.cell? ⟨mq, 1, none⟩ = some (.slice A1m n1m c1m) ∧ W.cell? ⟨mq, 2, none⟩ = some (.int .i64 tickm) ∧ W.cell? ⟨mq, 3, none⟩ = some (.int .i64 loq) ∧ W.cell? ⟨mq, 4, none⟩ = some (.int .i64 hiq) ∧ W.cell? ⟨mq, 5, none⟩ = some (.int .i64 widem) ∧ W.cell? ⟨mq, 6, none⟩ = some (.int .i64 rulem) ∧ W.cell? ⟨mq, 7, none⟩ = some (.int .i64 topm) ∧ W.cell? ⟨mq, 8, none⟩ = some (.int .i64 leastm) ∧ W.cell? ⟨mq, 9, none⟩ = some (.int .i64 partm) ∧ W.cell? ⟨mq, 10, none⟩ = some (.slice Av k cv)) wr.drew := hS.out _ hB.out.drew
              go_upto_region 21 with (fail)
              refine wp_region_held_drew (S := (fun W : World => W.cell? ⟨mb, 0, none⟩ = some (.string (str codem)) ∧ W.cell? ⟨mb, 1, none⟩ = some (.slice A1m n1m c1m) ∧ W.cell? ⟨mb, 2, none⟩ = some (.int .i64 tickm) ∧ W.cell? ⟨mb, 3, none⟩ = some (.int .i64 lowm) ∧ W.cell? ⟨mb, 4, none⟩ = some (.int .i64 highm) ∧ W.cell? ⟨mb, 5, none⟩ = some (.int .i64 widem) ∧ W.cell? ⟨mb, 6, none⟩ = some (.int .i64 rulem) ∧ W.cell? ⟨mb, 7, none⟩ = some (.int .i64 topm) ∧ W.cell? ⟨mb, 8, none⟩ = some (.int .i64 leastm) ∧ W.cell? ⟨mb, 9, none⟩ = some (.int .i64 partm) ∧ W.cell? ⟨mb, 10, none⟩ = some (.slice A2m n2m c2m) ∧ W.cell? ⟨mq, 0, none⟩ = some (.string (str codem)) ∧ W.cell? ⟨mq, 1, none⟩ = some (.slice A1m n1m c1m) ∧ W.cell? ⟨mq, 2, none⟩ = some (.int .i64 tickm) ∧ W.cell? ⟨mq, 3, none⟩ = some (.int .i64 loq) ∧ W.cell? ⟨mq, 4, none⟩ = some (.int .i64 hiq) ∧ W.cell? ⟨mq, 5, none⟩ = some (.int .i64 widem) ∧ W.cell? ⟨mq, 6, none⟩ = some (.int .i64 rulem) ∧ W.cell? ⟨mq, 7, none⟩ = some (.int .i64 topm) ∧ W.cell? ⟨mq, 8, none⟩ = some (.int .i64 leastm) ∧ W.cell? ⟨mq, 9, none⟩ = some (.int .i64 partm) ∧ W.cell? ⟨mq, 10, none⟩ = some (.slice Av k cv))) (by kernel_rfl) z0 (fun hHeld => ?_)
              refine wpAnyH_take (i := 0) (v := .agg #[.string (str codem), .slice A1m n1m c1m, .int .i64 tickm, .int .i64 lowm, .int .i64 highm, .int .i64 widem, .int .i64 rulem, .int .i64 topm, .int .i64 leastm, .int .i64 partm, .slice A2m n2m c2m]) rfl (by kernel_rfl) (by kernel_rfl) (by kernel_rfl) (fun _ _ _ h => h) (Or.inl ⟨by kernel_rfl, fun W hSw => ?_⟩) (by assumption) ?_
              · (try dsimp only at hSw)
                go_simp
              (try simp only [Act.put, List.setIfInBounds_toArray, List.set_cons_zero, List.set_cons_succ])
              refine wpAnyH_take (i := 1) (v := .slice A5 cn c5) rfl (by kernel_rfl) (by kernel_rfl) (by kernel_rfl) (fun _ _ _ h => h) (Or.inl ⟨by kernel_rfl, fun W hSw => ?_⟩) (by assumption) ?_
              · (try dsimp only at hSw)
                go_simp
              (try simp only [Act.put, List.setIfInBounds_toArray, List.set_cons_zero, List.set_cons_succ])
              refine wpAnyH_take (i := 2) (v := .int .i64 (kn : Int)) rfl (by kernel_rfl) (by kernel_rfl) (by kernel_rfl) (fun _ _ _ h => h) (Or.inl ⟨by kernel_rfl, fun W hSw => ?_⟩) (by assumption) ?_
              · (try dsimp only at hSw)
                go_simp
              (try simp only [Act.put, List.setIfInBounds_toArray, List.set_cons_zero, List.set_cons_succ])
              refine wpAnyH_take (i := 3) (v := .int .i64 (s : Int)) rfl (by kernel_rfl) (by kernel_rfl) (by kernel_rfl) (fun _ _ _ h => h) (Or.inl ⟨by kernel_rfl, fun W hSw => ?_⟩) (by assumption) ?_
              · (try dsimp only at hSw)
                go_simp
              (try simp only [Act.put, List.setIfInBounds_toArray, List.set_cons_zero, List.set_cons_succ])
              refine wpAnyH_take (i := 5) (v := .agg #[.string (str codem), .slice A1m n1m c1m, .int .i64 tickm, .int .i64 loq, .int .i64 hiq, .int .i64 widem, .int .i64 rulem, .int .i64 topm, .int .i64 leastm, .int .i64 partm, .slice Av k cv]) rfl (by kernel_rfl) (by kernel_rfl) (by kernel_rfl) (fun _ _ _ h => h) (Or.inl ⟨by kernel_rfl, fun W hSw => ?_⟩) (by assumption) ?_
              · (try dsimp only at hSw)
                go_simp
              (try simp only [Act.put, List.setIfInBounds_toArray, List.set_cons_zero, List.set_cons_succ])
              refine wpAnyH_take (i := 6) (v := .slice (some ⟨gu, 0, none⟩) cn cu) rfl (by kernel_rfl) (by kernel_rfl) (by kernel_rfl) (fun _ _ _ h => h) (Or.inl ⟨by kernel_rfl, fun W hSw => ?_⟩) (by assumption) ?_
              · (try dsimp only at hSw)
                go_simp
              (try simp only [Act.put, List.setIfInBounds_toArray, List.set_cons_zero, List.set_cons_succ])
              refine wpAnyH_take (i := 7) (v := .int .i64 (kn : Int)) rfl (by kernel_rfl) (by kernel_rfl) (by kernel_rfl) (fun _ _ _ h => h) (Or.inl ⟨by kernel_rfl, fun W hSw => ?_⟩) (by assumption) ?_
              · (try dsimp only at hSw)
                go_simp
              (try simp only [Act.put, List.setIfInBounds_toArray, List.set_cons_zero, List.set_cons_succ])
              refine wpAnyH_take (i := 8) (v := .int .i64 (s : Int)) rfl (by kernel_rfl) (by kernel_rfl) (by kernel_rfl) (fun _ _ _ h => h) (Or.inl ⟨by kernel_rfl, fun W hSw => ?_⟩) (by assumption) ?_
              · (try dsimp only at hSw)
                go_simp
              (try simp only [Act.put, List.setIfInBounds_toArray, List.set_cons_zero, List.set_cons_succ])
              refine wpAnyH_ready (rs := [4]) (by kernel_rfl) (by simp) ?_
              refine AllReadyH.cons rfl (fun K hK => ?_) AllReadyH.nil
              go_simp
              refine (HA.out s _ hs2 hB.out.drew).mono ?_
              rintro e wa ⟨va, rfl, ra, bba⟩
              have Ba := below_top hB.out.drew bba
              have za := hS.out wa Ba
              obtain ⟨Aa, ca, eva, hva, -⟩ := ra.slice
              obtain ⟨na, ena⟩ : ∃ x, (QL s).length = x := ⟨_, rfl⟩
              rw [ena] at eva hva
              subst eva
              refine hK.out _ _ za (fun hHeld => ?_)
              clear hK K
              (try simp only [Act.put, List.setIfInBounds_toArray, List.set_cons_zero, List.set_cons_succ])
              refine wpAnyH_ready (rs := [9]) (by kernel_rfl) (by simp) ?_
              refine AllReadyH.cons rfl (fun K hK => ?_) AllReadyH.nil
              go_simp
              refine (HB.out s _ hs2 Ba).mono ?_
              rintro e wb ⟨vb, rfl, rb, bbb⟩
              have Bb := below_top Ba bbb
              have zb := hS.out wb Bb
              obtain ⟨Ab, cb, evb, hvb, -⟩ := rb.slice
              obtain ⟨nb, enb⟩ : ∃ x, (if kn < n1m then (QL s).map (shiftQ kq) else QL s).length = x := ⟨_, rfl⟩
              rw [enb] at evb hvb
              subst evb
              refine hK.out _ _ zb (fun hHeld => ?_)
              clear hK K
              (try simp only [Act.put, List.setIfInBounds_toArray, List.set_cons_zero, List.set_cons_succ])
              refine wpAnyH_take (i := 10) (v := .slice Aa na ca) rfl (by kernel_rfl) (by kernel_rfl) (by kernel_rfl) (fun _ _ _ h => h) (Or.inl ⟨by kernel_rfl, fun W hSw => ?_⟩) (by assumption) ?_
              · (try dsimp only at hSw)
                go_simp
              (try simp only [Act.put, List.setIfInBounds_toArray, List.set_cons_zero, List.set_cons_succ])
              refine wpAnyH_take (i := 11) (v := .slice Ab nb cb) rfl (by kernel_rfl) (by kernel_rfl) (by kernel_rfl) (fun _ _ _ h => h) (Or.inl ⟨by kernel_rfl, fun W hSw => ?_⟩) (by assumption) ?_
              · (try dsimp only at hSw)
                go_simp
              (try simp only [Act.put, List.setIfInBounds_toArray, List.set_cons_zero, List.set_cons_succ])
              refine wpAnyH_done (by kernel_rfl) ?_ _
              (try simp only [List.getElem_toArray, List.getElem_cons_succ, List.getElem_cons_zero, Act.put, List.setIfInBounds_toArray, List.set_cons_zero, List.set_cons_succ])
              have hna : na ≤ 100 := by have := hlL.out s; omega
              have hva2 : Hid (∀ W, Below wa.heap.size wa W → HV fQt W Aa na (QL s)) := Lib.hid (fun W b => hva.below b)
              have hok2 : Hid (∀ x ∈ QL s, I64 x.p) := Lib.hid (hlO.out s)
              obtain ⟨LQ, eLQ⟩ : ∃ l, QL s = l := ⟨_, rfl⟩
              rw [eLQ] at hva2 hok2 ena enb rb hvb
              have hex : Hid (∀ j, j < na → ∃ x, LQ[j]? = some x) := Lib.hid (fun j hj => ⟨_, List.getElem?_eq_getElem (by omega)⟩)
              replace eLQ := Lib.hid eLQ
              replace ena := Lib.hid ena
              replace bbb := Lib.hid bbb
              have Bb2 := Lib.hid Bb
              have sA := Ba.size
              clear hHeld z0 za zb hva hlL Bb Ba bba ra
              by_cases hkn1 : kn < n1m
              · skip
                have enb2 : nb = na := by
                  rw [if_pos hkn1, List.length_map] at enb
                  have := ena.out; omega
                subst enb2
                rw [if_pos hkn1] at rb
                have rb0 : Hid (Own fQt 37 wb wa.heap.size (.slice Ab nb cb) (lowQ kq 0 LQ)) := Lib.hid rb
                have bb0 := Lib.hid (Below.refl wa.heap.size wb)
                have dk1 : decide ((kn : Int) < (n1m : Int)) = true := decide_eq_true (by omega)
                have dk2 : (kn : Int) < (n1m : Int) := by omega
                have sab : wa.heap.size ≤ wb.heap.size := bbb.out.size
                clear enb rb hvb
                go_wp2_with fail
                go_loopw [20] (fun iv wx => ∃ j : Nat, iv = .int .i64 (j : Int) ∧ j ≤ nb ∧ Hid (Own fQt 37 wx wa.heap.size (.slice Ab nb cb) (lowQ kq j LQ)) ∧ Hid (Below wa.heap.size wb wx)) (fun iv _ => nb - (intOf iv).toNat)
                case atStart => exact ⟨0, rfl, by omega, rb0, bb0⟩
                case round =>
                  clear rb0 bb0
                  obtain ⟨j, rfl, hj, hRi, hBi⟩ := hrel
                  have BF : Hid (Below w9.heap.size w9 wr) := Lib.hid (Bb2.out.trans (hBi.out.mono sA))
                  by_cases hlt : j < nb
                  · have d1 : decide ((j : Int) < (nb : Int)) = true := decide_eq_true (by omega)
                    have d3 : (j : Int) < (nb : Int) := by omega
                    have hj1 : j + 1 ≤ nb := hlt
                    obtain ⟨x, hx⟩ := hex.out j hlt
                    have hxs := lowQ_at kq hx
                    have hxe := lowQ_succ kq hx
                    have hxo := hok2.out x (List.mem_of_getElem? hx)
                    obtain ⟨xp, xn, xi, xs, xj, xt⟩ := x
                    obtain ⟨hxo1, hxo2⟩ := hxo
                    simp only [shiftQ] at hxs hxo1 hxo2
                    obtain ⟨gb, egb, hgb1, hgb2, y0, yf⟩ := hRi.out.atQ' hxs
                    subst egb
                    have yf0 := yf (j * 6)
                    clear yf
                    simp only at y0
                    obtain ⟨W2, eW2⟩ : ∃ W, wr.setCell ⟨gb, j * 6, none⟩ (.int .i64 xp) = W := ⟨_, rfl⟩
                    have hR2 : Hid (Own fQt 37 W2 wa.heap.size (.slice (some ⟨gb, 0, none⟩) nb cb) (lowQ kq (j + 1) LQ)) := Lib.hid (by
                      rw [← eW2, ← hxe]
                      exact hRi.out.putQ (m := 0) (x' := ⟨xp, xn, xi, xs, xj, xt⟩) (v := .int .i64 xp) hxs (by decide) rfl)
                    have B2 : Hid (Below wa.heap.size wb W2) := Lib.hid (by
                      rw [← eW2]
                      exact hBi.out.trans ((set_only wr gb _ _).below (B := wa.heap.size) (Nat.le_trans sab hBi.out.size) (fun k hk e => by omega)))
                    obtain ⟨zp, ezp⟩ : ∃ z, xp + kq = z := ⟨_, rfl⟩
                    have wzp : IntKind.i64.wrap (zp - kq) = xp := by rw [← ezp, show xp + kq - kq = xp by omega]; exact wrap_in (by omega) (by omega)
                    have wzq : zp - kq = xp := by omega
                    rw [ezp] at y0
                    replace ezp := Lib.hid ezp
                    replace eW2 := Lib.hid eW2
                    replace hx := Lib.hid hx
                    obtain ⟨k0, k1, k2, k3, k4, k5, k6, k7, k8, k9, k10⟩ := row11 (hm9.out wr BF.out)
                    clear hxe hxs hRi hBi hlt BF
                    go_upto_region 25 with (fail)
                    go_wp2_with fail
                    rw [eW2.out]
                    clear eW2 y0 yf0 k0 k1 k2 k3 k4 k5 k6 k7 k8 k9 k10
                    go_wp2_with fail
                    go_roundw
                    case rel => exact ⟨j + 1, by go_num, hj1, hR2, B2⟩
                    case measure => simp [intOf]; omega
                  · have ej : j = nb := by omega
                    have d1 : decide ((j : Int) < (nb : Int)) = false := decide_eq_false (by omega)
                    have d2 : decide (j < nb) = false := decide_eq_false hlt
                    have hre : lowQ kq j LQ = LQ := by rw [ej, ← ena.out]; exact lowQ_end kq LQ
                    have hRe := hRi.out
                    rw [hre] at hRe
                    obtain ⟨A9, c9, e9, h9, -⟩ := hRe.slice
                    rw [ena.out] at e9 h9
                    injection e9 with e91 e92 e93
                    have hfb : HV fQt wr Ab nb LQ := by rw [e91]; exact h9
                    have hfa : HV fQt wr Aa nb LQ := hva2.out wr (bbb.out.trans hBi.out)
                    replace ej := Lib.hid ej
                    clear hre hRe h9 e91 e92 e93 hRi hBi hlt
                    have HSm : Hid (Calls Try.prog 23 #[.slice Aa nb ca, .slice Ab nb cb] wr fun e w' => e = .returned (.bool true) ∧ Below wr.heap.size wr w') := Lib.hid (SameQ_yes Aa Ab nb ca cb LQ wr (by omega) (Lib.hid hfa) (Lib.hid hfb))
                    clear hfa hfb
                    go_wp2_with fail
                    refine HSm.out.mono ?_
                    rintro e wz ⟨rfl, bz⟩
                    have BZ := Lib.hid (below_top BF.out bz)
                    clear HSm bz
                    go_wp2_with fail
                    go_roundw
                    case rel => exact ⟨s + 1, by go_num, by omega, by omega, BZ⟩
                    case measure => simp [intOf]; omega
              · skip
                have enb2 : nb = na := by
                  rw [if_neg hkn1] at enb
                  have := ena.out; omega
                subst enb2
                rw [if_neg hkn1] at hvb
                have hvb0 : Hid (HV fQt wb Ab nb LQ) := Lib.hid hvb
                have dk1 : decide ((kn : Int) < (n1m : Int)) = false := decide_eq_false (by omega)
                have dk2 : ¬ (kn : Int) < (n1m : Int) := by omega
                clear enb rb hvb
                obtain ⟨k0, k1, k2, k3, k4, k5, k6, k7, k8, k9, k10⟩ := row11 (hm9.out wb Bb2.out)
                go_wp2_with fail
                go_loopw [20] (fun iv wx => ∃ j : Nat, iv = .int .i64 (j : Int) ∧ j ≤ nb ∧ wx = wb) (fun iv _ => nb - (intOf iv).toNat)
                case atStart => exact ⟨0, rfl, by omega, rfl⟩
                case round =>
                  obtain ⟨j, rfl, hj, ewr⟩ := hrel
                  obtain rfl := ewr
                  by_cases hlt : j < nb
                  · have d1 : decide ((j : Int) < (nb : Int)) = true := decide_eq_true (by omega)
                    have d3 : (j : Int) < (nb : Int) := by omega
                    have hj1 : j + 1 ≤ nb := hlt
                    go_wp2_with fail
                    go_roundw
                    case rel => exact ⟨j + 1, by go_num, hj1, by first | rfl | trivial⟩
                    case measure => simp [intOf]; omega
                  · have ej : j = nb := by omega
                    have d1 : decide ((j : Int) < (nb : Int)) = false := decide_eq_false (by omega)
                    have d2 : decide (j < nb) = false := decide_eq_false hlt
                    have hfb : HV fQt wr Ab nb LQ := hvb0.out
                    have hfa : HV fQt wr Aa nb LQ := hva2.out wr bbb.out
                    have BF := Bb2
                    replace ej := Lib.hid ej
                    clear hlt k0 k1 k2 k3 k4 k5 k6 k7 k8 k9 k10
                    have HSm : Hid (Calls Try.prog 23 #[.slice Aa nb ca, .slice Ab nb cb] wr fun e w' => e = .returned (.bool true) ∧ Below wr.heap.size wr w') := Lib.hid (SameQ_yes Aa Ab nb ca cb LQ wr (by omega) (Lib.hid hfa) (Lib.hid hfb))
                    clear hfa hfb
                    go_wp2_with fail
                    refine HSm.out.mono ?_
                    rintro e wz ⟨rfl, bz⟩
                    have BZ := Lib.hid (below_top BF.out bz)
                    clear HSm bz
                    go_wp2_with fail
                    go_roundw
                    case rel => exact ⟨s + 1, by go_num, by omega, by omega, BZ⟩
                    case measure => simp [intOf]; omega
            · have es : s = 3 := by omega
              have d1 : decide ((s : Int) ≤ 2) = false := decide_eq_false (by omega)
              have d2 : decide (s ≤ 2) = false := decide_eq_false hs2
              have Bf := Lib.hid (below_top B9.out hB.out)
              replace es := Lib.hid es
              clear hs2
              go_wp2_with fail
              refine (Known_any _).mono ?_
              rintro e wk ⟨rfl, bb⟩
              have Bk := Lib.hid (below_top Bf.out bb)
              clear bb
              go_wp2_with fail
              go_ret
              exact ⟨rfl, Bk.out⟩
end Go.Proofs.Ytdeofifidjbolaa
