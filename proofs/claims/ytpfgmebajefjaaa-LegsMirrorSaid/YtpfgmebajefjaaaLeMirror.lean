/-
  The walk of the law LegsMirror.
-/
import Derived.Test.YtpfgmebajefjaaaLeTells
import Derived.Test.YtpfgmebajefjaaaLeMirP
import Derived.Deep.QuietTactic
import Derived.BigQuiet
namespace Go.Proofs.Ytpfgmebajefjaaa
open Go.RowKit
set_option linter.unusedVariables false
set_option linter.unusedSimpArgs false

set_option maxRecDepth 100000 in
set_option maxHeartbeats 8000000 in
theorem LMirror_walk (p : PD) (inst steps : Int) (w : World) (h : Hid (p.Fit w)) (i1 : -9223372036854775808 ≤ inst) (i2 : inst ≤ 9223372036854775807) (s1 : -9223372036854775808 ≤ steps) (s2 : steps ≤ 9223372036854775807) :
    Calls Try.prog 6 #[p.val, .int .i64 inst, .int .i64 steps] w fun e w' => e = .returned (.bool true) ∧ Below w.heap.size w w' := by
  have HK : Hid (∀ W, Below w.heap.size w W → Calls Try.prog 12 #[p.val] W fun e w' => ∃ P : PD, e = .returned P.val ∧ (∃ T K, P.Keep15 T K) ∧ P.Ok w' ∧ Below W.heap.size W w') := Lib.hid (fun W b => KProd15 p W (Lib.hid (h.out.below b)))
  clear h
  obtain ⟨code, A1, n1, c1, tick, low, high, wide, rule, top, least, part, A2, n2, c2, Q, R⟩ := p
  replace HK : Hid (∀ W, Below w.heap.size w W → Calls Try.prog 12 #[.agg #[.string (str code), .slice A1 n1 c1, .int .i64 tick, .int .i64 low, .int .i64 high, .int .i64 wide, .int .i64 rule, .int .i64 top, .int .i64 least, .int .i64 part, .slice A2 n2 c2]] W fun e w' => ∃ P : PD, e = .returned P.val ∧ (∃ T K, P.Keep15 T K) ∧ P.Ok w' ∧ Below W.heap.size W w') := HK
  show Calls Try.prog 6 #[.agg #[.string (str code), .slice A1 n1 c1, .int .i64 tick, .int .i64 low, .int .i64 high, .int .i64 wide, .int .i64 rule, .int .i64 top, .int .i64 least, .int .i64 part, .slice A2 n2 c2], .int .i64 inst, .int .i64 steps] w _
  obtain ⟨W0, eW0⟩ : ∃ W0, w.alloc (.cells #[.string (str code), .slice A1 n1 c1, .int .i64 tick, .int .i64 low, .int .i64 high, .int .i64 wide, .int .i64 rule, .int .i64 top, .int .i64 least, .int .i64 part, .slice A2 n2 c2] 25) = W0 := ⟨_, rfl⟩
  obtain ⟨pb, epb⟩ : ∃ pb, w.heap.size = pb := ⟨_, rfl⟩
  have hblk0 : Hid (W0.heap[pb]? = some (.cells #[.string (str code), .slice A1 n1 c1, .int .i64 tick, .int .i64 low, .int .i64 high, .int .i64 wide, .int .i64 rule, .int .i64 top, .int .i64 least, .int .i64 part, .slice A2 n2 c2] 25 (0, 0))) := Lib.hid (by rw [← eW0, ← epb]; exact heap_alloc_new w _)
  have hB0 : Hid (Below w.heap.size w W0) := Lib.hid (by rw [← eW0]; exact (Below.refl _ w).alloc (Nat.le_refl _) _)
  replace eW0 := Lib.hid eW0
  replace epb := Lib.hid epb
  go_enter Try.func6, Try.ntmps6
  obtain ⟨k0, k1, k2, k3, k4, k5, k6, k7, k8, k9, k10⟩ := row11 hblk0.out
  go_upto_region 1 with (fail)
  rw [eW0.out, epb.out]
  clear eW0
  go_wp2_with fail
  refine (HK.out W0 hB0.out).mono ?_
  clear HK
  rintro e w3 ⟨P, rfl, ⟨TT, TK0, pk⟩, pok, b3⟩
  have hB3 := Lib.hid (below_top' hB0.out b3)
  clear k0 k1 k2 k3 k4 k5 k6 k7 k8 k9 k10 hblk0 hB0 b3 epb
  obtain ⟨codem, A1m, n1m, c1m, tickm, lowm, highm, widem, rulem, topm, leastm, partm, A2m, n2m, c2m, Qm, Rm⟩ := P
  rw [show PD.val ⟨codem, A1m, n1m, c1m, tickm, lowm, highm, widem, rulem, topm, leastm, partm, A2m, n2m, c2m, Qm, Rm⟩ = .agg #[.string (str codem), .slice A1m n1m c1m, .int .i64 tickm, .int .i64 lowm, .int .i64 highm, .int .i64 widem, .int .i64 rulem, .int .i64 topm, .int .i64 leastm, .int .i64 partm, .slice A2m n2m c2m] from rfl]
  obtain ⟨mb, emb⟩ : ∃ x, w3.heap.size = x := ⟨_, rfl⟩
  obtain ⟨W4, eW4⟩ : ∃ W, w3.alloc (.cells #[.string (str codem), .slice A1m n1m c1m, .int .i64 tickm, .int .i64 lowm, .int .i64 highm, .int .i64 widem, .int .i64 rulem, .int .i64 topm, .int .i64 leastm, .int .i64 partm, .slice A2m n2m c2m] 25) = W := ⟨_, rfl⟩
  have b34 : Below w3.heap.size w3 W4 := by rw [← eW4]; exact (Below.refl _ w3).alloc (Nat.le_refl _) _
  have hmb : W4.heap[mb]? = some (.cells #[.string (str codem), .slice A1m n1m c1m, .int .i64 tickm, .int .i64 lowm, .int .i64 highm, .int .i64 widem, .int .i64 rulem, .int .i64 topm, .int .i64 leastm, .int .i64 partm, .slice A2m n2m c2m] 25 (0, 0)) := by rw [← eW4, ← emb]; exact heap_alloc_new w3 _
  have hm4 : Hid (∀ W, Below W4.heap.size W4 W → W.heap[mb]? = some (.cells #[.string (str codem), .slice A1m n1m c1m, .int .i64 tickm, .int .i64 lowm, .int .i64 highm, .int .i64 widem, .int .i64 rulem, .int .i64 topm, .int .i64 leastm, .int .i64 partm, .slice A2m n2m c2m] 25 (0, 0))) := Lib.hid (fun W b => pd_blk' hmb b)
  have hB4 := Lib.hid (below_top' hB3.out b34)
  have hOk4 : Hid (∀ W, Below W4.heap.size W4 W → PD.Ok ⟨codem, A1m, n1m, c1m, tickm, lowm, highm, widem, rulem, topm, leastm, partm, A2m, n2m, c2m, Qm, Rm⟩ W) := Lib.hid (fun W b => (pok.below b34).below b)
  obtain ⟨TK, rfl⟩ : ∃ k : Nat, TK0 = (k : Int) := ⟨TK0.toNat, by have := pk.self.K1; omega⟩
  have hk := Lib.hid pk
  replace eW4 := Lib.hid eW4
  replace emb := Lib.hid emb
  clear pk pok b34 hmb hB3
  obtain ⟨n1', n2', n3', n4', n5', n6'⟩ := hk.out.self.cnt
  have n7' := hk.out.self.na
  have n8' := hk.out.self.nb
  have n9' := hk.out.self.T1
  have n10' := hk.out.self.T2
  have n11' := hk.out.self.K1
  have n12' := hk.out.self.K2
  have n13' : tickm = TT := hk.out.self.tick
  subst n13'
  simp only at n1' n2' n3' n4' n5' n6' n7' n8'
  obtain ⟨M, hM⟩ : ∃ M, n1m * (n1m - 1) / 2 = M := ⟨_, rfl⟩
  rw [hM] at n1' n2' n3' n4'
  obtain ⟨Z, hZ⟩ : ∃ Z, (n1m : Int) * ((n1m : Int) - 1) = Z := ⟨_, rfl⟩
  rw [hZ] at n4' n5' n6'
  have n14' : widem = tickm * (TK : Int) := hk.out.self.wide
  have hdv : widem.tdiv tickm = (TK : Int) := by rw [n14']; exact Int.mul_tdiv_cancel_left _ (by omega)
  have hdv1 : IntKind.i64.wrap (widem.tdiv tickm) = (TK : Int) := by rw [hdv]; exact wrap_in (by omega) (by omega)
  have w5 := withinN_le inst (M - 1)
  have HW5 : Hid (∀ W, _) := Lib.hid (fun W => Within_any inst (M - 1) W (by omega) i1 i2)
  obtain ⟨kk, ekk⟩ : ∃ k, withinN inst (M - 1) = k := ⟨_, rfl⟩
  rw [ekk] at HW5 w5
  clear ekk
  obtain ⟨i, j, hlg, hi, hj⟩ := hk.out.self.spread (k := kk) (by show kk < n1m * (n1m - 1) / 2; rw [hM]; omega)
  replace hlg : legsL ⟨codem, A1m, n1m, c1m, tickm, lowm, highm, widem, rulem, topm, leastm, partm, A2m, n2m, c2m, Qm, Rm⟩ ((n1m : Int) + (kk : Int)) = ((i : Int), (j : Int), true) := hlg
  replace hi : i < n1m := hi
  replace hj : j < n1m := hj
  have w6 := withinN_le steps (2 * TK)
  have HW6 : Hid (∀ W : World, Calls Try.prog 13 #[.int .i64 steps, .int .i64 0, .int .i64 (2 * (TK : Int))] W fun e w' => e = .returned (.int .i64 (withinN steps (2 * TK) : Int)) ∧ w' = W) := Lib.hid (fun W => by have := Within_any steps (2 * TK) W (by omega) s1 s2; rw [show ((2 * TK : Nat) : Int) = 2 * (TK : Int) by omega] at this; exact this)
  obtain ⟨ks, eks⟩ : ∃ k, withinN steps (2 * TK) = k := ⟨_, rfl⟩
  rw [eks] at HW6 w6
  clear eks
  obtain ⟨mm, hmm⟩ : ∃ m, (ks : Int) - (TK : Int) = m := ⟨_, rfl⟩
  obtain ⟨Y, hY⟩ : ∃ Y, tickm * mm = Y := ⟨_, rfl⟩
  have hkk := hk
  have hlo : lowm = tickm * -20 := hk.out.self.low
  have hhi : highm = tickm * 100 := hk.out.self.high
  have hloB : -200 ≤ lowm ∧ lowm ≤ 0 ∧ 0 ≤ highm ∧ highm ≤ 1000 := by omega
  obtain ⟨hlo1, hlo2, hhi1, hhi2⟩ := hloB
  have hYb := tick_in n9' n10' (a := mm) (by omega) (by omega)
  rw [hY] at hYb
  obtain ⟨hY1, hY2⟩ := hYb
  have hWb := tick_in n9' n10' (a := (TK : Int)) (by omega) (by omega)
  rw [← n14'] at hWb
  obtain ⟨hW1, hW2⟩ := hWb
  have hRb0 : ∀ i, i < n1m → -2000 ≤ Rm i ∧ Rm i ≤ 2000 := by
    intro i hi
    have e : Rm i = tickm * (10 + (i : Int)) := hk.out.self.settle i hi
    rw [e]
    exact tick_in n9' n10' (by omega) (by omega)
  have hRb := Lib.hid hRb0
  clear hRb0
  have hn2 : Hid (n2m = n1m) := Lib.hid hk.out.self.n2
  clear hlo hhi
  have wY : IntKind.i64.wrap (tickm * mm) = Y := by rw [hY]; exact wrap_in (by omega) (by omega)
  have wY2 : wrap64 (tickm * mm) = Y := by rw [hY]; exact IntWalk.wrap64_in _ ⟨by omega, by omega⟩
  have wY3 : IntKind.i64.wrap Y = Y := wrap_in (by omega) (by omega)
  have ht0 : tickm ≠ 0 := by omega
  have wTK : IntKind.i64.wrap (TK : Int) = (TK : Int) := wrap_in (by omega) (by omega)
  have wTK2 : IntKind.i64.wrap (2 * (TK : Int)) = 2 * (TK : Int) := wrap_in (by omega) (by omega)
  have wm : IntKind.i64.wrap ((ks : Int) - (TK : Int)) = mm := by rw [hmm]; exact wrap_in (by omega) (by omega)
  have wm2 : wrap64 ((ks : Int) - (TK : Int)) = mm := by rw [hmm]; exact IntWalk.wrap64_in _ ⟨by omega, by omega⟩
  have wm3 : IntKind.i64.wrap mm = mm := wrap_in (by omega) (by omega)
  clear hk n14'
  obtain ⟨j0, hj0, hy0, hy1, hy2⟩ := info_parts info_l
  have hmb0 := hm4.out W4 (Below.refl _ _)
  obtain ⟨k0, k1, k2, k3, k4, k5, k6, k7, k8, k9, k10⟩ := row11 hmb0
  have n2b : n2m ≤ 5 := by have := hn2.out; omega
  go_upto_region 2 with (fail)
  rw [eW4.out, emb.out]
  clear eW4 emb
  -- q, a box of its own
  obtain ⟨mq, emq⟩ : ∃ x, W4.heap.size = x := ⟨_, rfl⟩
  obtain ⟨W6, eW6⟩ : ∃ W, W4.alloc (.cells #[.string (str codem), .slice A1m n1m c1m, .int .i64 tickm, .int .i64 lowm, .int .i64 highm, .int .i64 widem, .int .i64 rulem, .int .i64 topm, .int .i64 leastm, .int .i64 partm, .slice A2m n2m c2m] 25) = W := ⟨_, rfl⟩
  have b46 : Below W4.heap.size W4 W6 := by rw [← eW6]; exact (Below.refl _ W4).alloc (Nat.le_refl _) _
  have hq6 : W6.heap[mq]? = some (.cells #[.string (str codem), .slice A1m n1m c1m, .int .i64 tickm, .int .i64 lowm, .int .i64 highm, .int .i64 widem, .int .i64 rulem, .int .i64 topm, .int .i64 leastm, .int .i64 partm, .slice A2m n2m c2m] 25 (0, 0)) := by rw [← eW6, ← emq]; exact heap_alloc_new W4 _
  have hm6 := pd_blk' hmb0 b46
  have hmq : mb < mq := by rw [← emq]; exact (Array.getElem?_eq_some_iff.1 hmb0).1
  have hmq4 : W4.heap.size ≤ mq := by rw [← emq]; exact Nat.le_refl _
  have hmq6 : mq < W6.heap.size := (Array.getElem?_eq_some_iff.1 hq6).1
  replace eW6 := Lib.hid eW6
  replace emq := Lib.hid emq
  clear hmb0
  go_upto_region 3 with (fail)
  rw [eW6.out, emq.out]
  clear k0 k1 k2 k3 k4 k5 k6 k7 k8 k9 k10 eW6 emq
  -- Low and High of q
  obtain ⟨loq, elo⟩ : ∃ z, -highm = z := ⟨_, rfl⟩
  obtain ⟨hiq, ehi⟩ : ∃ z, -lowm = z := ⟨_, rfl⟩
  have wlo : IntKind.i64.wrap (-highm) = loq := by rw [elo]; exact wrap_in (by omega) (by omega)
  have whi : IntKind.i64.wrap (-lowm) = hiq := by rw [ehi]; exact wrap_in (by omega) (by omega)
  have wlo2 : wrap64 (-highm) = loq := by rw [elo]; exact IntWalk.wrap64_in _ ⟨by omega, by omega⟩
  have whi2 : wrap64 (-lowm) = hiq := by rw [ehi]; exact IntWalk.wrap64_in _ ⟨by omega, by omega⟩
  have lq1 : -1000 ≤ loq := by omega
  have lq2 : loq ≤ 0 := by omega
  have hqq1 : 0 ≤ hiq := by omega
  have hqq2 : hiq ≤ 200 := by omega
  obtain ⟨k0, k1, k2, k3, k4, k5, k6, k7, k8, k9, k10⟩ := row11 hm6
  have q3 := (row11 hq6).2.2.2.1
  have s3 := heap_setCell_same W6 mq 3 _ 25 (.int .i64 loq) hq6
  have q4 := (row11 s3).2.2.2.2.1
  have s4 := heap_setCell_same _ mq 4 _ 25 (.int .i64 hiq) s3
  have fz3 := Lib.frozen_of_heap hq6 3
  have fz4 := Lib.frozen_of_heap hq6 4
  have on7 := (set_only W6 mq 3 (.int .i64 loq)).trans (set_only _ mq 4 (.int .i64 hiq))
  obtain ⟨W7, eW7⟩ : ∃ W, ((W6.setCell ⟨mq, 3, none⟩ (.int .i64 loq)).setCell ⟨mq, 4, none⟩ (.int .i64 hiq)).drew = W := ⟨_, rfl⟩
  have s7 : W7.heap[mq]? = some (.cells #[.string (str codem), .slice A1m n1m c1m, .int .i64 tickm, .int .i64 loq, .int .i64 hiq, .int .i64 widem, .int .i64 rulem, .int .i64 topm, .int .i64 leastm, .int .i64 partm, .slice A2m n2m c2m] 25 (0, 0)) := by rw [← eW7]; exact s4
  have b47 : Below W4.heap.size W4 W7 := by rw [← eW7]; exact (b46.trans (on7.below b46.size (fun k hk e => by omega))).drew
  replace s7 := Lib.hid s7
  replace b47 := Lib.hid b47
  replace eW7 := Lib.hid eW7
  replace elo := Lib.hid elo
  replace ehi := Lib.hid ehi
  clear s3 s4 on7 b46 hq6
  go_region
  rw [eW7.out]
  clear k0 k1 k2 k3 k4 k5 k6 k7 k8 k9 k10 q3 q4 fz3 fz4 wlo whi wlo2 whi2 eW7 hm6
  -- Settle of q, nothing at first
  have fz10 := Lib.frozen_of_heap s7.out 10
  have q10 := (row11 s7.out).2.2.2.2.2.2.2.2.2.2
  have s8 := heap_setCell_same W7 mq 10 _ 25 (.slice none 0 0) s7.out
  have b48' : Below W4.heap.size W4 (W7.setCell ⟨mq, 10, none⟩ (.slice none 0 0)) := b47.out.trans ((set_only W7 mq 10 _).below b47.out.size (fun k hk e => by omega))
  have hmq7 : mq < W7.heap.size := (Array.getElem?_eq_some_iff.1 s7.out).1
  have on8 := (set_only W7 mq 10 (.slice none 0 0)).size
  obtain ⟨W8, eW8⟩ : ∃ W, W7.setCell ⟨mq, 10, none⟩ (.slice none 0 0) = W := ⟨_, rfl⟩
  rw [eW8] at s8 b48' on8
  have s8h : Hid (W8.heap[mq]? = some (.cells #[.string (str codem), .slice A1m n1m c1m, .int .i64 tickm, .int .i64 loq, .int .i64 hiq, .int .i64 widem, .int .i64 rulem, .int .i64 topm, .int .i64 leastm, .int .i64 partm, .slice none 0 0] 25 (0, 0))) := Lib.hid s8
  have b48 := Lib.hid b48'
  have hOkS : Hid (∀ W, Below W4.heap.size W4 W → Nums W A2m n2m Rm) := Lib.hid (fun W b => (hOk4.out W b).settle)
  have own0 : Hid (Own fI 2 W8 (mq + 1) (.slice none 0 0) (negS Rm 0)) := Lib.hid (own_nil (fm := fI) 2 W8 (mq + 1))
  have hmr0 : mq + 1 ≤ W8.heap.size := by omega
  replace eW8 := Lib.hid eW8
  clear s7 b47 s8 b48' on8
  go_upto_region 5 with (fail)
  rw [eW8.out]
  clear fz10 q10 eW8
  go_wp2_with fail
  go_loopw [9] (fun iv wr => ∃ (k : Nat) (vv : Value), iv = .int .i64 (k : Int) ∧ k ≤ n2m ∧ mq + 1 ≤ wr.heap.size ∧ Hid (wr.heap[mq]? = some (.cells #[.string (str codem), .slice A1m n1m c1m, .int .i64 tickm, .int .i64 loq, .int .i64 hiq, .int .i64 widem, .int .i64 rulem, .int .i64 topm, .int .i64 leastm, .int .i64 partm, vv] 25 (0, 0))) ∧ Hid (Own fI 2 wr (mq + 1) vv (negS Rm k)) ∧ Hid (Below W4.heap.size W4 wr)) (fun iv _ => n2m - (intOf iv).toNat)
  case atStart => exact ⟨0, .slice none 0 0, rfl, by omega, hmr0, s8h, own0, b48⟩
  case round =>
    clear s8h own0 b48 hmr0
    obtain ⟨k, vv, rfl, hkl, hmr, hq, hO, hB⟩ := hrel
    obtain ⟨k0, k1, k2, k3, k4, k5, k6, k7, k8, k9, k10⟩ := row11 (hm4.out wr hB.out)
    by_cases hlt : k < n2m
    · have d1 : decide ((k : Int) < (n2m : Int)) = true := decide_eq_true (by omega)
      have d3 : (k : Int) < (n2m : Int) := by omega
      clear HW5 HW6 hkk hlg
      obtain ⟨sb0, so, rfl, nk, -⟩ := hOkS.out wr hB.out k hlt
      obtain ⟨rb1, rb2⟩ := hRb.out k (by have := hn2.out; omega)
      have hsn := negS_succ Rm k
      obtain ⟨rk, erk⟩ : ∃ z, Rm k = z := ⟨_, rfl⟩
      rw [erk] at nk rb1 rb2 hsn
      obtain ⟨rq, erq⟩ : ∃ z, -rk = z := ⟨_, rfl⟩
      rw [erq] at hsn
      have wrq : IntKind.i64.wrap (-rk) = rq := by rw [erq]; exact wrap_in (by omega) (by omega)
      have vq10 := (row11 hq.out).2.2.2.2.2.2.2.2.2.2
      have hsb : sb0 < mq := by
        obtain ⟨b', o', e', c', -⟩ := hOkS.out W4 (Below.refl _ _) k hlt
        injection e' with e'
        injection e' with e1 e2
        have := World.block_lt_of_cell? W4 _ c'
        rw [← e1] at this
        exact Nat.lt_of_lt_of_le this hmq4
      have vb10 : wr.cell? ⟨mb, 10, none⟩ = some (.slice (some ⟨sb0, so, none⟩) n2m c2m) := k10
      have hQ10 : Hid (∀ W, Below (mq + 1) wr W → W.cell? ⟨mq, 10, none⟩ = some vv) := Lib.hid (fun W b => (b.cell (p := ⟨mq, 10, none⟩) (by show mq < mq + 1; omega)).trans vq10)
      have hSk : Hid (∀ W, Below mq wr W → (fun W : World => W.cell? ⟨mb, 10, none⟩ = some (.slice (some ⟨sb0, so, none⟩) n2m c2m) ∧ W.cell? ⟨sb0, so + k, none⟩ = some (.int .i64 rk) ∧ Below mq wr W) W) := Lib.hid (fun W b => ⟨(b.cell (p := ⟨mb, 10, none⟩) (by show mb < mq; omega)).trans vb10, (b.cell (p := ⟨sb0, so + k, none⟩) (by show sb0 < mq; omega)).trans nk, b⟩)
      have z0 : (fun W : World => W.cell? ⟨mb, 10, none⟩ = some (.slice (some ⟨sb0, so, none⟩) n2m c2m) ∧ W.cell? ⟨sb0, so + k, none⟩ = some (.int .i64 rk) ∧ Below mq wr W) wr.drew := hSk.out _ (Below.refl _ wr).drew
      replace erk := Lib.hid erk
      replace erq := Lib.hid erq
      replace hsn := Lib.hid hsn
      go_wp2_with fail
      clear k0 k1 k2 k3 k4 k5 k6 k7 k8 k9 k10 vq10 vb10 nk
      refine wp_region_held_drew (S := (fun W : World => W.cell? ⟨mb, 10, none⟩ = some (.slice (some ⟨sb0, so, none⟩) n2m c2m) ∧ W.cell? ⟨sb0, so + k, none⟩ = some (.int .i64 rk) ∧ Below mq wr W)) (by kernel_rfl) z0 (fun hHeld => ?_)
      refine wpAnyH_take (i := 0) (v := .pointer (some ⟨mq, 10, none⟩)) rfl (by kernel_rfl) (by kernel_rfl) (by kernel_rfl) (fun _ _ _ h => h) (Or.inl ⟨by kernel_rfl, fun W hSw => ?_⟩) (by assumption) ?_
      · (try dsimp only at hSw)
        go_simp
      (try simp only [Act.put, List.setIfInBounds_toArray, List.set_cons_zero, List.set_cons_succ])
      refine wpAnyH_take (i := 2) (v := .pointer (some ⟨mb, 10, none⟩)) rfl (by kernel_rfl) (by kernel_rfl) (by kernel_rfl) (fun _ _ _ h => h) (Or.inl ⟨by kernel_rfl, fun W hSw => ?_⟩) (by assumption) ?_
      · (try dsimp only at hSw)
        go_simp
      (try simp only [Act.put, List.setIfInBounds_toArray, List.set_cons_zero, List.set_cons_succ])
      refine wpAnyH_take (i := 3) (v := .slice (some ⟨sb0, so, none⟩) n2m c2m) rfl (by kernel_rfl) (by kernel_rfl) (by kernel_rfl) (fun _ _ _ h => h) (Or.inl ⟨by kernel_rfl, fun W hSw => ?_⟩) (by assumption) ?_
      · (try dsimp only at hSw)
        go_simp
      (try simp only [Act.put, List.setIfInBounds_toArray, List.set_cons_zero, List.set_cons_succ])
      refine wpAnyH_take (i := 4) (v := .int .i64 (k : Int)) rfl (by kernel_rfl) (by kernel_rfl) (by kernel_rfl) (fun _ _ _ h => h) (Or.inl ⟨by kernel_rfl, fun W hSw => ?_⟩) (by assumption) ?_
      · (try dsimp only at hSw)
        go_simp
      (try simp only [Act.put, List.setIfInBounds_toArray, List.set_cons_zero, List.set_cons_succ])
      refine wpAnyH_take (i := 5) (v := .pointer (some ⟨sb0, so + k, none⟩)) rfl (by kernel_rfl) (by kernel_rfl) (by kernel_rfl) (fun _ _ _ h => h) (Or.inl ⟨by kernel_rfl, fun W hSw => ?_⟩) (by assumption) ?_
      · (try dsimp only at hSw)
        go_simp
      (try simp only [Act.put, List.setIfInBounds_toArray, List.set_cons_zero, List.set_cons_succ])
      refine wpAnyH_take (i := 6) (v := .int .i64 rk) rfl (by kernel_rfl) (by kernel_rfl) (by kernel_rfl) (fun _ _ _ h => h) (Or.inl ⟨by kernel_rfl, fun W hSw => ?_⟩) (by assumption) ?_
      · (try dsimp only at hSw)
        go_simp
      (try simp only [Act.put, List.setIfInBounds_toArray, List.set_cons_zero, List.set_cons_succ])
      refine wpAnyH_take (i := 7) (v := .int .i64 rq) rfl (by kernel_rfl) (by kernel_rfl) (by kernel_rfl) (fun _ _ _ h => h) (Or.inl ⟨by kernel_rfl, fun W hSw => ?_⟩) (by assumption) ?_
      · (try dsimp only at hSw)
        go_simp
      (try simp only [Act.put, List.setIfInBounds_toArray, List.set_cons_zero, List.set_cons_succ])
      refine wpAnyH_ready (rs := [1, 8]) (by kernel_rfl) (by simp) ?_
      refine AllReadyH.cons rfl (fun K hK => ?_) (AllReadyH.cons rfl (fun K hK => ?_) AllReadyH.nil)
      · have cq := hQ10.out _ (Below.refl _ wr).drew
        go_simp
        clear cq
        refine hK.out _ _ z0 (fun hHeld => ?_)
        clear hK K
        (try simp only [Act.put, List.setIfInBounds_toArray, List.set_cons_zero, List.set_cons_succ])
        refine wpAnyH_ready (rs := [8]) (by kernel_rfl) (by simp) ?_
        refine AllReadyH.cons rfl (fun K hK => ?_) AllReadyH.nil
        go_simp
        have b1 : Below wr.heap.size wr (wr.alloc (.cells #[.int .i64 rq] 2)).drew := ((Below.refl _ wr).alloc (Nat.le_refl _) _).drew
        have hl1 := i_lit wr rq 2
        have hO1 := (hO.out.below ((Below.refl _ wr).alloc (Nat.le_refl _) (.cells #[.int .i64 rq] 2)))
        obtain ⟨U1, eU1⟩ : ∃ W, (wr.alloc (.cells #[.int .i64 rq] 2)).drew = W := ⟨_, rfl⟩
        have hl2 : HV fI U1 (some ⟨wr.heap.size, 0, none⟩) 1 [rq] := by rw [← eU1]; exact hl1.below (Below.refl _ _).drew
        have hO2 : Own fI 2 U1 (mq + 1) vv (negS Rm k) := by rw [← eU1]; exact hO1.below (Below.refl _ _).drew
        rw [eU1] at b1 ⊢
        have z1 := hSk.out U1 (b1.mono (by omega))
        clear eU1 hl1 hO1
        refine hK.out _ _ z1 (fun hHeld => ?_)
        clear hK K
        (try simp only [Act.put, List.setIfInBounds_toArray, List.set_cons_zero, List.set_cons_succ])
        refine wpAnyH_ready (rs := [9]) (by kernel_rfl) (by simp) ?_
        refine AllReadyH.cons rfl (fun K hK => ?_) AllReadyH.nil
        rw [if_pos (by kernel_rfl)]
        refine wp_onto_g (fm := fI) (T := 2) (.tmp 42) (.tmp 49) 23 rfl (mq + 1) j0 (.int .i64 0) 8 Try.underlying23 hj0 hy0 hy1 hy2 rfl (by omega) vv (negS Rm k) (by rfl) hO2 (some ⟨wr.heap.size, 0, none⟩) 1 1 [rq] (by rfl) hl2 (fun e => by cases e) (by rw [negS_len]; simp; omega) (Nat.le_trans hmr (by have := b1.size; omega)) (fun v2 U2 E2 G2 O2 => ?_)
        have b2 : Below (mq + 1) wr U2 := (b1.mono hmr).grown G2 (by have := b1.size; omega) (fun q hq => (hO2.lt q hq).1)
        have z2 := hSk.out U2 (b2.mono (by omega))
        have hqU := (b2.block mq (by omega)).trans hq.out
        have fzU := Lib.frozen_of_heap hqU 10
        have cU := hQ10.out U2 b2
        have hlen2 : (negS Rm k ++ [rq]).length = k + 1 := by rw [List.length_append, negS_len]; rfl
        obtain ⟨Ax, cx, ev2, -⟩ := E2.slice
        rw [hlen2] at ev2
        subst ev2
        clear G2 O2
        refine hK.out _ _ z2 (fun hHeld => ?_)
        clear hK K
        (try simp only [Act.put, List.setIfInBounds_toArray, List.set_cons_zero, List.set_cons_succ])
        refine wpAnyH_take (i := 10) (v := .pointer (some ⟨mq, 10, none⟩)) rfl (by kernel_rfl) (by kernel_rfl) (by kernel_rfl) (fun _ _ _ h => h) (Or.inl ⟨by kernel_rfl, fun W hSw => ?_⟩) (by assumption) ?_
        · (try dsimp only at hSw)
          go_simp
        (try simp only [Act.put, List.setIfInBounds_toArray, List.set_cons_zero, List.set_cons_succ])
        refine wpAnyH_ready (rs := [11]) (by kernel_rfl) (by simp) ?_
        refine AllReadyH.cons rfl (fun K hK => ?_) AllReadyH.nil
        go_simp
        have on3 := set_only U2 mq 10 (.slice Ax (k + 1) cx)
        have hq3 := heap_setCell_same U2 mq 10 _ 25 (.slice Ax (k + 1) cx) hqU
        have hO3 := E2.only on3 (fun q hq e => by have := (E2.lt q hq).1; omega)
        have b3 : Below W4.heap.size W4 (U2.setCell ⟨mq, 10, none⟩ (.slice Ax (k + 1) cx)) := (hB.out.trans (b2.mono (by omega))).trans (on3.below (Nat.le_trans hB.out.size b2.size) (fun k hk e => by omega))
        have hm3 : mq + 1 ≤ (U2.setCell ⟨mq, 10, none⟩ (.slice Ax (k + 1) cx)).heap.size := Nat.le_trans (Nat.le_trans hmr b2.size) on3.size
        obtain ⟨U3, eU3⟩ : ∃ W, U2.setCell ⟨mq, 10, none⟩ (.slice Ax (k + 1) cx) = W := ⟨_, rfl⟩
        rw [eU3] at hq3 hO3 b3 hm3 on3 ⊢
        have z3 : (fun W : World => W.cell? ⟨mb, 10, none⟩ = some (.slice (some ⟨sb0, so, none⟩) n2m c2m) ∧ W.cell? ⟨sb0, so + k, none⟩ = some (.int .i64 rk) ∧ Below mq wr W) U3 := hSk.out U3 ((b2.mono (by omega)).trans (on3.below (by have := b2.size; omega) (fun k hk e => by omega)))
        refine hK.out _ _ z3 (fun hHeld => ?_)
        clear hK K
        (try simp only [Act.put, List.setIfInBounds_toArray, List.set_cons_zero, List.set_cons_succ])
        refine wpAnyH_done (by kernel_rfl) ?_ _
        (try simp only [List.getElem_toArray, List.getElem_cons_succ, List.getElem_cons_zero, Act.put, List.setIfInBounds_toArray, List.set_cons_zero, List.set_cons_succ])
        have hk1 : k + 1 ≤ n2m := hlt
        have r3 : Hid (Own fI 2 U3 (mq + 1) (.slice Ax (k + 1) cx) (negS Rm (k + 1))) := Lib.hid (by rw [hsn.out]; exact hO3)
        replace hq3 := Lib.hid hq3
        replace b3 := Lib.hid b3
        clear hHeld z0 z1 z2 z3 hSk hQ10 hO hO2 E2 hO3 hqU fzU cU on3 hq eU3 b1 b2 hl2
        go_wp2_with fail
        go_roundw
        case rel => exact ⟨k + 1, .slice Ax (k + 1) cx, by go_num, hk1, hm3, hq3, r3, b3⟩
        case measure => simp [intOf]; omega
      · go_simp
        have b1 : Below wr.heap.size wr (wr.alloc (.cells #[.int .i64 rq] 2)).drew := ((Below.refl _ wr).alloc (Nat.le_refl _) _).drew
        have hl1 := i_lit wr rq 2
        have hO1 := (hO.out.below ((Below.refl _ wr).alloc (Nat.le_refl _) (.cells #[.int .i64 rq] 2)))
        obtain ⟨U1, eU1⟩ : ∃ W, (wr.alloc (.cells #[.int .i64 rq] 2)).drew = W := ⟨_, rfl⟩
        have hl2 : HV fI U1 (some ⟨wr.heap.size, 0, none⟩) 1 [rq] := by rw [← eU1]; exact hl1.below (Below.refl _ _).drew
        have hO2 : Own fI 2 U1 (mq + 1) vv (negS Rm k) := by rw [← eU1]; exact hO1.below (Below.refl _ _).drew
        rw [eU1] at b1 ⊢
        have z1 := hSk.out U1 (b1.mono (by omega))
        clear eU1 hl1 hO1
        refine hK.out _ _ z1 (fun hHeld => ?_)
        clear hK K
        (try simp only [Act.put, List.setIfInBounds_toArray, List.set_cons_zero, List.set_cons_succ])
        refine wpAnyH_ready (rs := [1]) (by kernel_rfl) (by simp) ?_
        refine AllReadyH.cons rfl (fun K hK => ?_) AllReadyH.nil
        have cq := hQ10.out _ (b1.mono hmr)
        go_simp
        clear cq
        refine hK.out _ _ z1 (fun hHeld => ?_)
        clear hK K
        (try simp only [Act.put, List.setIfInBounds_toArray, List.set_cons_zero, List.set_cons_succ])
        refine wpAnyH_ready (rs := [9]) (by kernel_rfl) (by simp) ?_
        refine AllReadyH.cons rfl (fun K hK => ?_) AllReadyH.nil
        rw [if_pos (by kernel_rfl)]
        refine wp_onto_g (fm := fI) (T := 2) (.tmp 42) (.tmp 49) 23 rfl (mq + 1) j0 (.int .i64 0) 8 Try.underlying23 hj0 hy0 hy1 hy2 rfl (by omega) vv (negS Rm k) (by rfl) hO2 (some ⟨wr.heap.size, 0, none⟩) 1 1 [rq] (by rfl) hl2 (fun e => by cases e) (by rw [negS_len]; simp; omega) (Nat.le_trans hmr (by have := b1.size; omega)) (fun v2 U2 E2 G2 O2 => ?_)
        have b2 : Below (mq + 1) wr U2 := (b1.mono hmr).grown G2 (by have := b1.size; omega) (fun q hq => (hO2.lt q hq).1)
        have z2 := hSk.out U2 (b2.mono (by omega))
        have hqU := (b2.block mq (by omega)).trans hq.out
        have fzU := Lib.frozen_of_heap hqU 10
        have cU := hQ10.out U2 b2
        have hlen2 : (negS Rm k ++ [rq]).length = k + 1 := by rw [List.length_append, negS_len]; rfl
        obtain ⟨Ax, cx, ev2, -⟩ := E2.slice
        rw [hlen2] at ev2
        subst ev2
        clear G2 O2
        refine hK.out _ _ z2 (fun hHeld => ?_)
        clear hK K
        (try simp only [Act.put, List.setIfInBounds_toArray, List.set_cons_zero, List.set_cons_succ])
        refine wpAnyH_take (i := 10) (v := .pointer (some ⟨mq, 10, none⟩)) rfl (by kernel_rfl) (by kernel_rfl) (by kernel_rfl) (fun _ _ _ h => h) (Or.inl ⟨by kernel_rfl, fun W hSw => ?_⟩) (by assumption) ?_
        · (try dsimp only at hSw)
          go_simp
        (try simp only [Act.put, List.setIfInBounds_toArray, List.set_cons_zero, List.set_cons_succ])
        refine wpAnyH_ready (rs := [11]) (by kernel_rfl) (by simp) ?_
        refine AllReadyH.cons rfl (fun K hK => ?_) AllReadyH.nil
        go_simp
        have on3 := set_only U2 mq 10 (.slice Ax (k + 1) cx)
        have hq3 := heap_setCell_same U2 mq 10 _ 25 (.slice Ax (k + 1) cx) hqU
        have hO3 := E2.only on3 (fun q hq e => by have := (E2.lt q hq).1; omega)
        have b3 : Below W4.heap.size W4 (U2.setCell ⟨mq, 10, none⟩ (.slice Ax (k + 1) cx)) := (hB.out.trans (b2.mono (by omega))).trans (on3.below (Nat.le_trans hB.out.size b2.size) (fun k hk e => by omega))
        have hm3 : mq + 1 ≤ (U2.setCell ⟨mq, 10, none⟩ (.slice Ax (k + 1) cx)).heap.size := Nat.le_trans (Nat.le_trans hmr b2.size) on3.size
        obtain ⟨U3, eU3⟩ : ∃ W, U2.setCell ⟨mq, 10, none⟩ (.slice Ax (k + 1) cx) = W := ⟨_, rfl⟩
        rw [eU3] at hq3 hO3 b3 hm3 on3 ⊢
        have z3 : (fun W : World => W.cell? ⟨mb, 10, none⟩ = some (.slice (some ⟨sb0, so, none⟩) n2m c2m) ∧ W.cell? ⟨sb0, so + k, none⟩ = some (.int .i64 rk) ∧ Below mq wr W) U3 := hSk.out U3 ((b2.mono (by omega)).trans (on3.below (by have := b2.size; omega) (fun k hk e => by omega)))
        refine hK.out _ _ z3 (fun hHeld => ?_)
        clear hK K
        (try simp only [Act.put, List.setIfInBounds_toArray, List.set_cons_zero, List.set_cons_succ])
        refine wpAnyH_done (by kernel_rfl) ?_ _
        (try simp only [List.getElem_toArray, List.getElem_cons_succ, List.getElem_cons_zero, Act.put, List.setIfInBounds_toArray, List.set_cons_zero, List.set_cons_succ])
        have hk1 : k + 1 ≤ n2m := hlt
        have r3 : Hid (Own fI 2 U3 (mq + 1) (.slice Ax (k + 1) cx) (negS Rm (k + 1))) := Lib.hid (by rw [hsn.out]; exact hO3)
        replace hq3 := Lib.hid hq3
        replace b3 := Lib.hid b3
        clear hHeld z0 z1 z2 z3 hSk hQ10 hO hO2 E2 hO3 hqU fzU cU on3 hq eU3 b1 b2 hl2
        go_wp2_with fail
        go_roundw
        case rel => exact ⟨k + 1, .slice Ax (k + 1) cx, by go_num, hk1, hm3, hq3, r3, b3⟩
        case measure => simp [intOf]; omega
    · have ek : n2m = k := by omega
      have d1 : decide ((k : Int) < (n2m : Int)) = false := decide_eq_false (by omega)
      have d2 : decide (k < n2m) = false := decide_eq_false hlt
      rename World => wo
      obtain ⟨Av, cv, evv, hvv, lv, mv, -, -⟩ := hO.out.slice
      rw [negS_len] at evv hvv lv
      subst evv
      have hmW : Hid (∀ W, Below wo.heap.size wo W → W.heap[mb]? = some (.cells #[.string (str codem), .slice A1m n1m c1m, .int .i64 tickm, .int .i64 lowm, .int .i64 highm, .int .i64 widem, .int .i64 rulem, .int .i64 topm, .int .i64 leastm, .int .i64 partm, .slice A2m n2m c2m] 25 (0, 0))) := Lib.hid (fun W b => hm4.out W (below_top' hB.out b))
      have hqW : Hid (∀ W, Below wo.heap.size wo W → W.heap[mq]? = some (.cells #[.string (str codem), .slice A1m n1m c1m, .int .i64 tickm, .int .i64 loq, .int .i64 hiq, .int .i64 widem, .int .i64 rulem, .int .i64 topm, .int .i64 leastm, .int .i64 partm, .slice Av k cv] 25 (0, 0))) := Lib.hid (fun W b => pd_blk' hq.out b)
      have hOkW : Hid (∀ W, Below wo.heap.size wo W → PD.Ok ⟨codem, A1m, n1m, c1m, tickm, lowm, highm, widem, rulem, topm, leastm, partm, A2m, n2m, c2m, Qm, Rm⟩ W) := Lib.hid (fun W b => hOk4.out W (below_top' hB.out b))
      have hNu : Hid (∀ W, Below wo.heap.size wo W → Nums W Av k (fun i => -Rm i)) := Lib.hid (fun W b => nums_same ((hvv.below b).nums (fun x hx => by
        unfold negS at hx
        obtain ⟨j, hj, rfl⟩ := List.mem_map.1 hx
        have hj2 := List.mem_range.1 hj
        obtain ⟨ra1, ra2⟩ := hRb.out j (by have := hn2.out; omega)
        exact ⟨by omega, by omega⟩)) (fun j hj => negS_get hj))
      have hOkQ : Hid (∀ W, Below wo.heap.size wo W → PD.Ok ⟨codem, A1m, n1m, c1m, tickm, loq, hiq, widem, rulem, topm, leastm, partm, Av, k, cv, Qm, fun i => -Rm i⟩ W) := Lib.hid (fun W b => by
        have o := hOkW.out W b
        exact ⟨o.months, hNu.out W b, o.code, o.l1, o.m1, lv, mv, o.tick, ⟨by show _ ≤ loq; omega, by show loq ≤ _; omega⟩, ⟨by show _ ≤ hiq; omega, by show hiq ≤ _; omega⟩, o.wide, o.rule, o.top, o.least, o.part⟩)
      obtain ⟨a, b, e1, e2, a1, a2, b1, b2, y1, y2, e3, e4⟩ := mirror15 hkk.out hlg hi hj (m := mm) (by omega) (by omega) Av cv
      have eq' : PD.turned ⟨codem, A1m, n1m, c1m, tickm, lowm, highm, widem, rulem, topm, leastm, partm, A2m, n2m, c2m, Qm, Rm⟩ Av cv = ⟨codem, A1m, n1m, c1m, tickm, loq, hiq, widem, rulem, topm, leastm, partm, Av, k, cv, Qm, fun i => -Rm i⟩ := by unfold PD.turned; simp only [elo.out, ehi.out, ek]
      rw [eq'] at e2
      rw [hY] at e1 e2 e3 e4
      simp only at e3
      have HP : Hid (∀ W, Below wo.heap.size wo W → Calls Try.prog 9 #[.agg #[.string (str codem), .slice A1m n1m c1m, .int .i64 tickm, .int .i64 lowm, .int .i64 highm, .int .i64 widem, .int .i64 rulem, .int .i64 topm, .int .i64 leastm, .int .i64 partm, .slice A2m n2m c2m], .int .i64 ((n1m : Int) + (kk : Int)), .int .i64 Y] W fun e w' => e = .returned (.tuple #[.int .i64 a, .int .i64 b, .int .i64 0]) ∧ Below W.heap.size W w') := Lib.hid (fun W g => by have := PPrices_any ⟨codem, A1m, n1m, c1m, tickm, lowm, highm, widem, rulem, topm, leastm, partm, A2m, n2m, c2m, Qm, Rm⟩ ((n1m : Int) + (kk : Int)) Y W (Lib.hid (hOkW.out W g)) ⟨by omega, by omega⟩ ⟨by omega, by omega⟩; rw [e1] at this; exact this)
      have HQ : Hid (∀ W, Below wo.heap.size wo W → Calls Try.prog 9 #[.agg #[.string (str codem), .slice A1m n1m c1m, .int .i64 tickm, .int .i64 loq, .int .i64 hiq, .int .i64 widem, .int .i64 rulem, .int .i64 topm, .int .i64 leastm, .int .i64 partm, .slice Av k cv], .int .i64 ((n1m : Int) + (kk : Int)), .int .i64 (-Y)] W fun e w' => e = .returned (.tuple #[.int .i64 (-a), .int .i64 (-b), .int .i64 0]) ∧ Below W.heap.size W w') := Lib.hid (fun W g => by have := PPrices_any ⟨codem, A1m, n1m, c1m, tickm, loq, hiq, widem, rulem, topm, leastm, partm, Av, k, cv, Qm, fun i => -Rm i⟩ ((n1m : Int) + (kk : Int)) (-Y) W (Lib.hid (hOkQ.out W g)) ⟨by omega, by omega⟩ ⟨by omega, by omega⟩; rw [e2] at this; exact this)
      have HG : Hid (mm + 1 ≤ (TK : Int) → ∃ g1 g2 : Int, ((g1 = a + tickm ∧ g2 = b) ∨ (g1 = a ∧ g2 = b - tickm)) ∧ Hid (∀ W, Below wo.heap.size wo W → Calls Try.prog 9 #[.agg #[.string (str codem), .slice A1m n1m c1m, .int .i64 tickm, .int .i64 lowm, .int .i64 highm, .int .i64 widem, .int .i64 rulem, .int .i64 topm, .int .i64 leastm, .int .i64 partm, .slice A2m n2m c2m], .int .i64 ((n1m : Int) + (kk : Int)), .int .i64 (Y + tickm)] W fun e w' => e = .returned (.tuple #[.int .i64 g1, .int .i64 g2, .int .i64 0]) ∧ Below W.heap.size W w')) := Lib.hid (fun g => by
        rcases e4 g with e | e
        · exact ⟨a + tickm, b, .inl ⟨rfl, rfl⟩, Lib.hid (fun W g => by have := PPrices_any ⟨codem, A1m, n1m, c1m, tickm, lowm, highm, widem, rulem, topm, leastm, partm, A2m, n2m, c2m, Qm, Rm⟩ ((n1m : Int) + (kk : Int)) (Y + tickm) W (Lib.hid (hOkW.out W g)) ⟨by omega, by omega⟩ ⟨by omega, by omega⟩; rw [e] at this; exact this)⟩
        · exact ⟨a, b - tickm, .inr ⟨rfl, rfl⟩, Lib.hid (fun W g => by have := PPrices_any ⟨codem, A1m, n1m, c1m, tickm, lowm, highm, widem, rulem, topm, leastm, partm, A2m, n2m, c2m, Qm, Rm⟩ ((n1m : Int) + (kk : Int)) (Y + tickm) W (Lib.hid (hOkW.out W g)) ⟨by omega, by omega⟩ ⟨by omega, by omega⟩; rw [e] at this; exact this)⟩)
      replace ek := Lib.hid ek
      clear e1 e2 e4 eq' hkk hlg hOkQ hNu hOkW hq hO hvv hOkS hRb hn2
      go_upto_region 9 with (fail)
      go_upto_region 10 with (fail)
      go_wp2_with fail
      refine (HW5.out _).mono ?_
      rintro e wx ⟨rfl, ewx⟩
      obtain rfl := ewx.symm
      clear HW5
      have Bo := Lib.hid (Below.refl wo.heap.size wo)
      go_upto_region 11 with (fail)
      have z0 : (fun W : World => (W.cell? ⟨mb, 0, none⟩ = some (.string (str codem)) ∧ W.cell? ⟨mb, 1, none⟩ = some (.slice A1m n1m c1m) ∧ W.cell? ⟨mb, 2, none⟩ = some (.int .i64 tickm) ∧ W.cell? ⟨mb, 3, none⟩ = some (.int .i64 lowm) ∧ W.cell? ⟨mb, 4, none⟩ = some (.int .i64 highm) ∧ W.cell? ⟨mb, 5, none⟩ = some (.int .i64 widem) ∧ W.cell? ⟨mb, 6, none⟩ = some (.int .i64 rulem) ∧ W.cell? ⟨mb, 7, none⟩ = some (.int .i64 topm) ∧ W.cell? ⟨mb, 8, none⟩ = some (.int .i64 leastm) ∧ W.cell? ⟨mb, 9, none⟩ = some (.int .i64 partm) ∧ W.cell? ⟨mb, 10, none⟩ = some (.slice A2m n2m c2m)) ∧ Below wo.heap.size wo W) wo.drew := ⟨⟨k0, k1, k2, k3, k4, k5, k6, k7, k8, k9, k10⟩, Bo.out.drew⟩
      clear k0 k1 k2 k3 k4 k5 k6 k7 k8 k9 k10
      refine wp_region_held_drew (S := (fun W : World => (W.cell? ⟨mb, 0, none⟩ = some (.string (str codem)) ∧ W.cell? ⟨mb, 1, none⟩ = some (.slice A1m n1m c1m) ∧ W.cell? ⟨mb, 2, none⟩ = some (.int .i64 tickm) ∧ W.cell? ⟨mb, 3, none⟩ = some (.int .i64 lowm) ∧ W.cell? ⟨mb, 4, none⟩ = some (.int .i64 highm) ∧ W.cell? ⟨mb, 5, none⟩ = some (.int .i64 widem) ∧ W.cell? ⟨mb, 6, none⟩ = some (.int .i64 rulem) ∧ W.cell? ⟨mb, 7, none⟩ = some (.int .i64 topm) ∧ W.cell? ⟨mb, 8, none⟩ = some (.int .i64 leastm) ∧ W.cell? ⟨mb, 9, none⟩ = some (.int .i64 partm) ∧ W.cell? ⟨mb, 10, none⟩ = some (.slice A2m n2m c2m)) ∧ Below wo.heap.size wo W)) (by kernel_rfl) z0 (fun hHeld => ?_)
      refine wpAnyH_take (i := 0) (v := .pointer (some ⟨mb, 2, none⟩)) rfl (by kernel_rfl) (by kernel_rfl) (by kernel_rfl) (fun _ _ _ h => h) (Or.inl ⟨by kernel_rfl, fun W hSw => ?_⟩) (by assumption) ?_
      · (try dsimp only at hSw)
        go_simp
      (try simp only [Act.put, List.setIfInBounds_toArray, List.set_cons_zero, List.set_cons_succ])
      refine wpAnyH_take (i := 1) (v := .int .i64 tickm) rfl (by kernel_rfl) (by kernel_rfl) (by kernel_rfl) (fun _ _ _ h => h) (Or.inl ⟨by kernel_rfl, fun W hSw => ?_⟩) (by assumption) ?_
      · (try dsimp only at hSw)
        go_simp
      (try simp only [Act.put, List.setIfInBounds_toArray, List.set_cons_zero, List.set_cons_succ])
      refine wpAnyH_take (i := 2) (v := .int .i64 steps) rfl (by kernel_rfl) (by kernel_rfl) (by kernel_rfl) (fun _ _ _ h => h) (Or.inl ⟨by kernel_rfl, fun W hSw => ?_⟩) (by assumption) ?_
      · (try dsimp only at hSw)
        go_simp
      (try simp only [Act.put, List.setIfInBounds_toArray, List.set_cons_zero, List.set_cons_succ])
      refine wpAnyH_take (i := 3) (v := .pointer (some ⟨mb, 5, none⟩)) rfl (by kernel_rfl) (by kernel_rfl) (by kernel_rfl) (fun _ _ _ h => h) (Or.inl ⟨by kernel_rfl, fun W hSw => ?_⟩) (by assumption) ?_
      · (try dsimp only at hSw)
        go_simp
      (try simp only [Act.put, List.setIfInBounds_toArray, List.set_cons_zero, List.set_cons_succ])
      refine wpAnyH_take (i := 4) (v := .int .i64 widem) rfl (by kernel_rfl) (by kernel_rfl) (by kernel_rfl) (fun _ _ _ h => h) (Or.inl ⟨by kernel_rfl, fun W hSw => ?_⟩) (by assumption) ?_
      · (try dsimp only at hSw)
        go_simp
      (try simp only [Act.put, List.setIfInBounds_toArray, List.set_cons_zero, List.set_cons_succ])
      refine wpAnyH_take (i := 5) (v := .pointer (some ⟨mb, 2, none⟩)) rfl (by kernel_rfl) (by kernel_rfl) (by kernel_rfl) (fun _ _ _ h => h) (Or.inl ⟨by kernel_rfl, fun W hSw => ?_⟩) (by assumption) ?_
      · (try dsimp only at hSw)
        go_simp
      (try simp only [Act.put, List.setIfInBounds_toArray, List.set_cons_zero, List.set_cons_succ])
      refine wpAnyH_take (i := 6) (v := .int .i64 tickm) rfl (by kernel_rfl) (by kernel_rfl) (by kernel_rfl) (fun _ _ _ h => h) (Or.inl ⟨by kernel_rfl, fun W hSw => ?_⟩) (by assumption) ?_
      · (try dsimp only at hSw)
        go_simp
      (try simp only [Act.put, List.setIfInBounds_toArray, List.set_cons_zero, List.set_cons_succ])
      refine wpAnyH_take (i := 7) (v := .int .i64 (TK : Int)) rfl (by kernel_rfl) (by kernel_rfl) (by kernel_rfl) (fun _ _ _ h => h) (Or.inl ⟨by kernel_rfl, fun W hSw => ?_⟩) (by assumption) ?_
      · (try dsimp only at hSw)
        go_simp
      (try simp only [Act.put, List.setIfInBounds_toArray, List.set_cons_zero, List.set_cons_succ])
      refine wpAnyH_take (i := 8) (v := .int .i64 (2 * (TK : Int))) rfl (by kernel_rfl) (by kernel_rfl) (by kernel_rfl) (fun _ _ _ h => h) (Or.inl ⟨by kernel_rfl, fun W hSw => ?_⟩) (by assumption) ?_
      · (try dsimp only at hSw)
        go_simp
      (try simp only [Act.put, List.setIfInBounds_toArray, List.set_cons_zero, List.set_cons_succ])
      refine wpAnyH_take (i := 10) (v := .pointer (some ⟨mb, 5, none⟩)) rfl (by kernel_rfl) (by kernel_rfl) (by kernel_rfl) (fun _ _ _ h => h) (Or.inl ⟨by kernel_rfl, fun W hSw => ?_⟩) (by assumption) ?_
      · (try dsimp only at hSw)
        go_simp
      (try simp only [Act.put, List.setIfInBounds_toArray, List.set_cons_zero, List.set_cons_succ])
      refine wpAnyH_take (i := 11) (v := .int .i64 widem) rfl (by kernel_rfl) (by kernel_rfl) (by kernel_rfl) (fun _ _ _ h => h) (Or.inl ⟨by kernel_rfl, fun W hSw => ?_⟩) (by assumption) ?_
      · (try dsimp only at hSw)
        go_simp
      (try simp only [Act.put, List.setIfInBounds_toArray, List.set_cons_zero, List.set_cons_succ])
      refine wpAnyH_take (i := 12) (v := .pointer (some ⟨mb, 2, none⟩)) rfl (by kernel_rfl) (by kernel_rfl) (by kernel_rfl) (fun _ _ _ h => h) (Or.inl ⟨by kernel_rfl, fun W hSw => ?_⟩) (by assumption) ?_
      · (try dsimp only at hSw)
        go_simp
      (try simp only [Act.put, List.setIfInBounds_toArray, List.set_cons_zero, List.set_cons_succ])
      refine wpAnyH_take (i := 13) (v := .int .i64 tickm) rfl (by kernel_rfl) (by kernel_rfl) (by kernel_rfl) (fun _ _ _ h => h) (Or.inl ⟨by kernel_rfl, fun W hSw => ?_⟩) (by assumption) ?_
      · (try dsimp only at hSw)
        go_simp
      (try simp only [Act.put, List.setIfInBounds_toArray, List.set_cons_zero, List.set_cons_succ])
      refine wpAnyH_take (i := 14) (v := .int .i64 (TK : Int)) rfl (by kernel_rfl) (by kernel_rfl) (by kernel_rfl) (fun _ _ _ h => h) (Or.inl ⟨by kernel_rfl, fun W hSw => ?_⟩) (by assumption) ?_
      · (try dsimp only at hSw)
        go_simp
      (try simp only [Act.put, List.setIfInBounds_toArray, List.set_cons_zero, List.set_cons_succ])
      refine wpAnyH_ready (rs := [9]) (by kernel_rfl) (by simp) ?_
      refine AllReadyH.cons rfl (fun K hK => ?_) AllReadyH.nil
      go_simp
      refine (HW6.out _).mono ?_
      rintro e ux ⟨rfl, eux⟩
      obtain rfl := eux.symm
      go_wp2_with fail
      refine hK.out _ _ z0 (fun hHeld => ?_)
      clear hK K
      (try simp only [Act.put, List.setIfInBounds_toArray, List.set_cons_zero, List.set_cons_succ])
      refine wpAnyH_take (i := 15) (v := .int .i64 mm) rfl (by kernel_rfl) (by kernel_rfl) (by kernel_rfl) (fun _ _ _ h => h) (Or.inl ⟨by kernel_rfl, fun W hSw => ?_⟩) (by assumption) ?_
      · (try dsimp only at hSw)
        go_simp
      (try simp only [Act.put, List.setIfInBounds_toArray, List.set_cons_zero, List.set_cons_succ])
      refine wpAnyH_take (i := 16) (v := .int .i64 Y) rfl (by kernel_rfl) (by kernel_rfl) (by kernel_rfl) (fun _ _ _ h => h) (Or.inl ⟨by kernel_rfl, fun W hSw => ?_⟩) (by assumption) ?_
      · (try dsimp only at hSw)
        go_simp
      (try simp only [Act.put, List.setIfInBounds_toArray, List.set_cons_zero, List.set_cons_succ])
      refine wpAnyH_take (i := 17) (v := .int .i64 Y) rfl (by kernel_rfl) (by kernel_rfl) (by kernel_rfl) (fun _ _ _ h => h) (Or.inl ⟨by kernel_rfl, fun W hSw => ?_⟩) (by assumption) ?_
      · (try dsimp only at hSw)
        go_simp
      (try simp only [Act.put, List.setIfInBounds_toArray, List.set_cons_zero, List.set_cons_succ])
      refine wpAnyH_done (by kernel_rfl) ?_ _
      (try simp only [List.getElem_toArray, List.getElem_cons_succ, List.getElem_cons_zero, Act.put, List.setIfInBounds_toArray, List.set_cons_zero, List.set_cons_succ])
      clear hHeld z0 HW6
      have By := Lib.hid Bo.out.drew
      obtain ⟨wy, ewy⟩ : ∃ W, wo.drew = W := ⟨_, rfl⟩
      rw [ewy] at By ⊢
      clear ewy Bo
      obtain ⟨k0, k1, k2, k3, k4, k5, k6, k7, k8, k9, k10⟩ := row11 (hmW.out wy By.out)
      go_upto_region 12 with (fail)
      go_wp2_with fail
      refine (HP.out wy By.out).mono ?_
      rintro e wp ⟨rfl, bb⟩
      have Bwp := Lib.hid (below_top' By.out bb)
      clear k0 k1 k2 k3 k4 k5 k6 k7 k8 k9 k10 bb
      obtain ⟨k0, k1, k2, k3, k4, k5, k6, k7, k8, k9, k10⟩ := row11 (hmW.out wp Bwp.out)
      go_upto_region 13 with (fail)
      clear k0 k1 k2 k3 k4 k5 k6 k7 k8 k9 k10
      have wN : IntKind.i64.wrap (-Y) = -Y := wrap_in (by omega) (by omega)
      obtain ⟨k0, k1, k2, k3, k4, k5, k6, k7, k8, k9, k10⟩ := row11 (hqW.out wp Bwp.out)
      go_wp2_with fail
      refine (HQ.out wp Bwp.out).mono ?_
      rintro e wq ⟨rfl, bb⟩
      have Bwq := Lib.hid (below_top' Bwp.out bb)
      clear k0 k1 k2 k3 k4 k5 k6 k7 k8 k9 k10 bb
      obtain ⟨k0, k1, k2, k3, k4, k5, k6, k7, k8, k9, k10⟩ := row11 (hmW.out wq Bwq.out)
      have f0 : ((0 : Int) != 0) = false := by decide
      have wA : IntKind.i64.wrap (- -a) = a := by rw [Int.neg_neg]; exact wrap_in (by omega) (by omega)
      have wB : IntKind.i64.wrap (- -b) = b := by rw [Int.neg_neg]; exact wrap_in (by omega) (by omega)
      have f1 : (a != a) = false := by simp
      have f2 : (b != b) = false := by simp
      go_upto_region 16 with (fail)
      have wS : IntKind.i64.wrap (Y + tickm) = Y + tickm := wrap_in (by omega) (by omega)
      by_cases hw : Y + tickm > widem
      · have g0 : decide (Y + tickm > widem) = true := decide_eq_true hw
        have g0' : decide (widem < Y + tickm) = true := decide_eq_true hw
        go_wp2_with fail
        refine (Known_any _).mono ?_
        rintro e wz ⟨rfl, bz⟩
        have Bz := Lib.hid (below_top' Bwq.out bz)
        clear bz
        go_wp2_with fail
        go_ret
        exact ⟨rfl, below_top' (below_top' hB4.out hB.out) Bz.out⟩
      · have g0 : decide (Y + tickm > widem) = false := decide_eq_false hw
        have g0' : decide (widem < Y + tickm) = false := decide_eq_false hw
        have hmk : mm + 1 ≤ (TK : Int) := by
          apply Classical.byContradiction
          intro h
          exact hw (e3.2 (by omega))
        obtain ⟨g1, g2, eg, HN⟩ := HG.out hmk
        clear HG
        go_upto_region 18 with (fail)
        go_wp2_with fail
        refine (HN.out wq Bwq.out).mono ?_
        rintro e wg ⟨rfl, bb⟩
        have Bwg := Lib.hid (below_top' Bwq.out bb)
        clear k0 k1 k2 k3 k4 k5 k6 k7 k8 k9 k10 bb
        obtain ⟨k0, k1, k2, k3, k4, k5, k6, k7, k8, k9, k10⟩ := row11 (hmW.out wg Bwg.out)
        have f3 : ((0 : Int) == 0) = true := by decide
        have wT : IntKind.i64.wrap (a + tickm) = a + tickm := wrap_in (by omega) (by omega)
        have wT2 : IntKind.i64.wrap (b - tickm) = b - tickm := wrap_in (by omega) (by omega)
        rcases eg with ⟨rfl, rfl⟩ | ⟨rfl, rfl⟩
        · have f4 : (a + tickm == a + tickm) = true := by simp
          have f5 : (g2 == g2) = true := by simp
          go_upto_region 19 with (fail)
          go_wp2_with fail
          refine (Known_any _).mono ?_
          rintro e wz ⟨rfl, bz⟩
          have Bz := Lib.hid (below_top' Bwg.out bz)
          clear bz
          go_wp2_with fail
          go_ret
          exact ⟨rfl, below_top' (below_top' hB4.out hB.out) Bz.out⟩
        · have f4 : (g1 == g1 + tickm) = false := by simp; omega
          have f5 : (g1 == g1) = true := by simp
          have f6 : (b - tickm == b - tickm) = true := by simp
          go_upto_region 19 with (fail)
          go_wp2_with fail
          refine (Known_any _).mono ?_
          rintro e wz ⟨rfl, bz⟩
          have Bz := Lib.hid (below_top' Bwg.out bz)
          clear bz
          go_wp2_with fail
          go_ret
          exact ⟨rfl, below_top' (below_top' hB4.out hB.out) Bz.out⟩
end Go.Proofs.Ytpfgmebajefjaaa
