/-
  The walk of the law ImpliedBest.
-/
import Derived.Test.YtdeofifidjbolaaIpTells
import Derived.Test.YtdeofifidjbolaaIpEq
import Derived.Test.YtdeofifidjbolaaImFacts
import Derived.Deep.QuietTactic
import Derived.BigQuiet
namespace Go.Proofs.Ytdeofifidjbolaa
open Go.RowKit
set_option linter.unusedVariables false
set_option linter.unusedSimpArgs false

set_option maxRecDepth 100000 in
set_option maxHeartbeats 8000000 in
theorem IBest_walk (p : PD) (A : Option Addr) (n cap : Nat) (L : List Tp) (inst side : Int) (w : World) (h : Hid (p.Fit w)) (hA : Hid (HV fTp w A n L)) (hok : Hid (OkT L)) (hl : n ≤ cap) (hcap : cap ≤ 9223372036854775807) (i1 : -9223372036854775808 ≤ inst) (i2 : inst ≤ 9223372036854775807) (s1 : -9223372036854775808 ≤ side) (s2 : side ≤ 9223372036854775807) :
    Calls Try.prog 6 #[p.val, .slice A n cap, .int .i64 inst, .int .i64 side] w fun e w' => e = .returned (.bool true) ∧ Below w.heap.size w w' := by
  have HK : Hid (∀ W, Below w.heap.size w W → Calls Try.prog 17 #[p.val] W fun e w' => ∃ P : PD, e = .returned P.val ∧ P.Keep ∧ P.Ok w' ∧ Below W.heap.size W w') := Lib.hid (fun W b => KProd14 p W (Lib.hid (h.out.below b)))
  clear h
  obtain ⟨code, A1, n1, c1, tick, low, high, wide, rule, top, least, part, A2, n2, c2, Q, R⟩ := p
  replace HK : Hid (∀ W, Below w.heap.size w W → Calls Try.prog 17 #[.agg #[.string (str code), .slice A1 n1 c1, .int .i64 tick, .int .i64 low, .int .i64 high, .int .i64 wide, .int .i64 rule, .int .i64 top, .int .i64 least, .int .i64 part, .slice A2 n2 c2]] W fun e w' => ∃ P : PD, e = .returned P.val ∧ P.Keep ∧ P.Ok w' ∧ Below W.heap.size W w') := HK
  show Calls Try.prog 6 #[.agg #[.string (str code), .slice A1 n1 c1, .int .i64 tick, .int .i64 low, .int .i64 high, .int .i64 wide, .int .i64 rule, .int .i64 top, .int .i64 least, .int .i64 part, .slice A2 n2 c2], .slice A n cap, .int .i64 inst, .int .i64 side] w _
  obtain ⟨W0, eW0⟩ : ∃ W0, w.alloc (.cells #[.string (str code), .slice A1 n1 c1, .int .i64 tick, .int .i64 low, .int .i64 high, .int .i64 wide, .int .i64 rule, .int .i64 top, .int .i64 least, .int .i64 part, .slice A2 n2 c2] 25) = W0 := ⟨_, rfl⟩
  obtain ⟨pb, epb⟩ : ∃ pb, w.heap.size = pb := ⟨_, rfl⟩
  have hblk0 : Hid (W0.heap[pb]? = some (.cells #[.string (str code), .slice A1 n1 c1, .int .i64 tick, .int .i64 low, .int .i64 high, .int .i64 wide, .int .i64 rule, .int .i64 top, .int .i64 least, .int .i64 part, .slice A2 n2 c2] 25 (0, 0))) := Lib.hid (by rw [← eW0, ← epb]; exact heap_alloc_new w _)
  have hB0 : Hid (Below w.heap.size w W0) := Lib.hid (by rw [← eW0]; exact (Below.refl _ w).alloc (Nat.le_refl _) _)
  replace eW0 := Lib.hid eW0
  replace epb := Lib.hid epb
  go_enter Try.func6, Try.ntmps6
  obtain ⟨k0, k1, k2, k3, k4, k5, k6, k7, k8, k9, k10⟩ := row11 hblk0.out
  go_upto_region 1 with (fail)
  rw [eW0.out, epb.out]
  clear eW0
  go_wp2_with fail
  refine (HK.out W0 hB0.out).mono ?_
  clear HK
  rintro e w3 ⟨P, rfl, pk, pok, b3⟩
  have hB3 := Lib.hid (below_top hB0.out b3)
  clear k0 k1 k2 k3 k4 k5 k6 k7 k8 k9 k10 hblk0 hB0 b3
  obtain ⟨codem, A1m, n1m, c1m, tickm, lowm, highm, widem, rulem, topm, leastm, partm, A2m, n2m, c2m, Qm, Rm⟩ := P
  rw [show PD.val ⟨codem, A1m, n1m, c1m, tickm, lowm, highm, widem, rulem, topm, leastm, partm, A2m, n2m, c2m, Qm, Rm⟩ = .agg #[.string (str codem), .slice A1m n1m c1m, .int .i64 tickm, .int .i64 lowm, .int .i64 highm, .int .i64 widem, .int .i64 rulem, .int .i64 topm, .int .i64 leastm, .int .i64 partm, .slice A2m n2m c2m] from rfl]
  obtain ⟨mb, emb⟩ : ∃ x, w3.heap.size = x := ⟨_, rfl⟩
  obtain ⟨W4, eW4⟩ : ∃ W, w3.alloc (.cells #[.string (str codem), .slice A1m n1m c1m, .int .i64 tickm, .int .i64 lowm, .int .i64 highm, .int .i64 widem, .int .i64 rulem, .int .i64 topm, .int .i64 leastm, .int .i64 partm, .slice A2m n2m c2m] 25) = W := ⟨_, rfl⟩
  have b34 : Below w3.heap.size w3 W4 := by rw [← eW4]; exact (Below.refl _ w3).alloc (Nat.le_refl _) _
  have hmb : W4.heap[mb]? = some (.cells #[.string (str codem), .slice A1m n1m c1m, .int .i64 tickm, .int .i64 lowm, .int .i64 highm, .int .i64 widem, .int .i64 rulem, .int .i64 topm, .int .i64 leastm, .int .i64 partm, .slice A2m n2m c2m] 25 (0, 0)) := by rw [← eW4, ← emb]; exact heap_alloc_new w3 _
  have hm4 : Hid (∀ W, Below W4.heap.size W4 W → W.heap[mb]? = some (.cells #[.string (str codem), .slice A1m n1m c1m, .int .i64 tickm, .int .i64 lowm, .int .i64 highm, .int .i64 widem, .int .i64 rulem, .int .i64 topm, .int .i64 leastm, .int .i64 partm, .slice A2m n2m c2m] 25 (0, 0))) := Lib.hid (fun W b => pd_blk' hmb b)
  have hB4 := Lib.hid (below_top hB3.out b34)
  have hOk4 : Hid (∀ W, Below W4.heap.size W4 W → PD.Ok ⟨codem, A1m, n1m, c1m, tickm, lowm, highm, widem, rulem, topm, leastm, partm, A2m, n2m, c2m, Qm, Rm⟩ W) := Lib.hid (fun W b => (pok.below b34).below b)
  have hk := Lib.hid pk
  replace eW4 := Lib.hid eW4
  replace emb := Lib.hid emb
  clear pk pok b34 hmb hB3
  have hlx : L.length = n := hA.out.1
  have HT : Hid (Calls Try.prog 18 #[.agg #[.string (str codem), .slice A1m n1m c1m, .int .i64 tickm, .int .i64 lowm, .int .i64 highm, .int .i64 widem, .int .i64 rulem, .int .i64 topm, .int .i64 leastm, .int .i64 partm, .slice A2m n2m c2m], .slice A n cap] W4 (GaveT 31 W4 (topsL tickm (cntL ⟨codem, A1m, n1m, c1m, tickm, lowm, highm, widem, rulem, topm, leastm, partm, A2m, n2m, c2m, Qm, Rm⟩) L))) := Lib.hid (Tops_any ⟨codem, A1m, n1m, c1m, tickm, lowm, highm, widem, rulem, topm, leastm, partm, A2m, n2m, c2m, Qm, Rm⟩ A n cap L W4 (Lib.hid (hOk4.out W4 (Below.refl _ _))) hk.out.t1 (by have := hk.out.t2; omega) (Lib.hid (hA.out.below hB4.out)) hok (by omega))
  have ht1 := topsL_len tickm (cntL ⟨codem, A1m, n1m, c1m, tickm, lowm, highm, widem, rulem, topm, leastm, partm, A2m, n2m, c2m, Qm, Rm⟩) L
  have ht2 : OkT (topsL tickm (cntL ⟨codem, A1m, n1m, c1m, tickm, lowm, highm, widem, rulem, topm, leastm, partm, A2m, n2m, c2m, Qm, Rm⟩) L) := topsL_ok hk.out.t1 (by have := hk.out.t2; omega)
  have ht3 : ∀ y ∈ topsL tickm (cntL ⟨codem, A1m, n1m, c1m, tickm, lowm, highm, widem, rulem, topm, leastm, partm, A2m, n2m, c2m, Qm, Rm⟩) L, y.Near := topsL_near hk.out.t1 (by have := hk.out.t2; omega)
  have ht4 : ∀ y ∈ topsL tickm (cntL ⟨codem, A1m, n1m, c1m, tickm, lowm, highm, widem, rulem, topm, leastm, partm, A2m, n2m, c2m, Qm, Rm⟩) L, y.Some0 := topsL_some
  obtain ⟨c1', c2', c3', c4', c5'⟩ := hk.out.cnt
  obtain ⟨cn, hcn⟩ : ∃ c, cntL ⟨codem, A1m, n1m, c1m, tickm, lowm, highm, widem, rulem, topm, leastm, partm, A2m, n2m, c2m, Qm, Rm⟩ = c := ⟨_, rfl⟩
  obtain ⟨TL, hTL⟩ : ∃ c, topsL tickm (cntL ⟨codem, A1m, n1m, c1m, tickm, lowm, highm, widem, rulem, topm, leastm, partm, A2m, n2m, c2m, Qm, Rm⟩) L = c := ⟨_, rfl⟩
  rw [hTL] at HT ht1 ht2 ht3 ht4
  rw [hcn] at ht1 c3' c4' c5'
  replace c1' : 2 ≤ n1m := c1'
  replace c2' : n1m ≤ 6 := c2'
  replace c3' : n1m ≤ cn := c3'
  replace hcn := Lib.hid hcn
  replace ht2 := Lib.hid ht2
  replace ht3 := Lib.hid ht3
  replace ht4 := Lib.hid ht4
  clear hTL hlx hA hok
  obtain ⟨k0, k1, k2, k3, k4, k5, k6, k7, k8, k9, k10⟩ := row11 (hm4.out W4 (Below.refl _ _))
  go_upto_region 2 with (fail)
  rw [eW4.out, emb.out]
  clear eW4 emb
  go_wp2_with fail
  refine HT.out.mono ?_
  rintro e w5 ⟨v5, rfl, ro, b5⟩
  have hOwn5 := ro
  obtain ⟨A5, c5, rfl, hv5, hn5, hc5, hA5, -⟩ := ro.slice
  rw [ht1] at hv5 hn5 ⊢
  have hB5 := Lib.hid (below_top hB4.out b5)
  have hm5 : Hid (∀ W, Below w5.heap.size w5 W → W.heap[mb]? = some (.cells #[.string (str codem), .slice A1m n1m c1m, .int .i64 tickm, .int .i64 lowm, .int .i64 highm, .int .i64 widem, .int .i64 rulem, .int .i64 topm, .int .i64 leastm, .int .i64 partm, .slice A2m n2m c2m] 25 (0, 0))) := Lib.hid (fun W b => hm4.out W (below_top b5 b))
  have hOk5 : Hid (∀ W, Below w5.heap.size w5 W → PD.Ok ⟨codem, A1m, n1m, c1m, tickm, lowm, highm, widem, rulem, topm, leastm, partm, A2m, n2m, c2m, Qm, Rm⟩ W) := Lib.hid (fun W b => hOk4.out W (below_top b5 b))
  have hV5 : Hid (∀ W, Below w5.heap.size w5 W → HV fTp W A5 cn TL) := Lib.hid (fun W b => hv5.below b)
  replace hOwn5 := Lib.hid hOwn5
  replace hA5 := Lib.hid hA5
  clear k0 k1 k2 k3 k4 k5 k6 k7 k8 k9 k10 HT ro b5 hv5 hm4 hOk4 hB4
  have HWkk : Hid (∀ W : World, Calls Try.prog 19 #[.int .i64 inst, .int .i64 0, .int .i64 ((cn : Int) - 1)] W fun e w' => e = .returned (.int .i64 (withinN inst (cn - 1) : Int)) ∧ w' = W) := Lib.hid (fun W => by have := Within_any inst (cn - 1) W (by omega) i1 i2; rw [show (((cn - 1) : Nat) : Int) = (cn : Int) - 1 by omega] at this; exact this)
  have hwkk := withinN_le inst (cn - 1)
  obtain ⟨kk, ekk⟩ : ∃ k, withinN inst (cn - 1) = k := ⟨_, rfl⟩
  rw [ekk] at HWkk hwkk
  clear ekk
  have HWkb : Hid (∀ W : World, Calls Try.prog 19 #[.int .i64 side, .int .i64 0, .int .i64 (1)] W fun e w' => e = .returned (.int .i64 (withinN side 1 : Int)) ∧ w' = W) := Lib.hid (fun W => by have := Within_any side 1 W (by omega) s1 s2; rw [show ((1 : Nat) : Int) = 1 by omega] at this; exact this)
  have hwkb := withinN_le side 1
  obtain ⟨kb, ekb⟩ : ∃ k, withinN side 1 = k := ⟨_, rfl⟩
  rw [ekb] at HWkb hwkb
  clear ekb
  rcases (show kb = 0 ∨ kb = 1 by omega) with rfl | rfl
  · skip
    have HQ : Hid (∀ W, Below w5.heap.size w5 W → Calls Try.prog 13 #[.agg #[.string (str codem), .slice A1m n1m c1m, .int .i64 tickm, .int .i64 lowm, .int .i64 highm, .int .i64 widem, .int .i64 rulem, .int .i64 topm, .int .i64 leastm, .int .i64 partm, .slice A2m n2m c2m], .slice A5 cn c5, .int .i64 (kk : Int), .int .i64 1] W (AnsQ W.heap.size W (quotesQ ⟨codem, A1m, n1m, c1m, tickm, lowm, highm, widem, rulem, topm, leastm, partm, A2m, n2m, c2m, Qm, Rm⟩ TL (kk : Int) 1))) := Lib.hid (fun W b => PQuotes_any ⟨codem, A1m, n1m, c1m, tickm, lowm, highm, widem, rulem, topm, leastm, partm, A2m, n2m, c2m, Qm, Rm⟩ A5 cn c5 TL (kk : Int) 1 W (Lib.hid (hOk5.out W b)) (Lib.hid (hV5.out W b)) ht2 ⟨by omega, by omega⟩ ⟨by omega, by omega⟩ (by omega))
    have hlen : (quotesQ ⟨codem, A1m, n1m, c1m, tickm, lowm, highm, widem, rulem, topm, leastm, partm, A2m, n2m, c2m, Qm, Rm⟩ TL (kk : Int) 1).length ≤ 100 := quotesQ_len
    have hokQ := Lib.hid (quotesQ_ok (p := ⟨codem, A1m, n1m, c1m, tickm, lowm, highm, widem, rulem, topm, leastm, partm, A2m, n2m, c2m, Qm, Rm⟩) ht2.out (kk : Int) 1)
    have hpos : ∀ q ∈ quotesQ ⟨codem, A1m, n1m, c1m, tickm, lowm, highm, widem, rulem, topm, leastm, partm, A2m, n2m, c2m, Qm, Rm⟩ TL (kk : Int) 1, 0 ≤ q.n := fun q hq => allQ_pos ht4.out (List.mem_filter.1 hq).1
    obtain ⟨LQ, eLQ⟩ : ∃ l, quotesQ ⟨codem, A1m, n1m, c1m, tickm, lowm, highm, widem, rulem, topm, leastm, partm, A2m, n2m, c2m, Qm, Rm⟩ TL (kk : Int) 1 = l := ⟨_, rfl⟩
    rw [eLQ] at HQ hlen hokQ hpos
    clear eLQ ht2 ht3 ht4 hk hOk5 hV5
    go_wp2_with fail
    refine (HWkb.out _).mono ?_
    rintro e ux ⟨rfl, eux⟩
    obtain rfl := eux.symm
    have hSof : Hid (∀ W W' : World, (fun W : World => W.cell? ⟨mb, 0, none⟩ = some (.string (str codem)) ∧ W.cell? ⟨mb, 1, none⟩ = some (.slice A1m n1m c1m) ∧ W.cell? ⟨mb, 2, none⟩ = some (.int .i64 tickm) ∧ W.cell? ⟨mb, 3, none⟩ = some (.int .i64 lowm) ∧ W.cell? ⟨mb, 4, none⟩ = some (.int .i64 highm) ∧ W.cell? ⟨mb, 5, none⟩ = some (.int .i64 widem) ∧ W.cell? ⟨mb, 6, none⟩ = some (.int .i64 rulem) ∧ W.cell? ⟨mb, 7, none⟩ = some (.int .i64 topm) ∧ W.cell? ⟨mb, 8, none⟩ = some (.int .i64 leastm) ∧ W.cell? ⟨mb, 9, none⟩ = some (.int .i64 partm) ∧ W.cell? ⟨mb, 10, none⟩ = some (.slice A2m n2m c2m) ∧ Below w5.heap.size w5 W) W → Below W.heap.size W W' → (fun W : World => W.cell? ⟨mb, 0, none⟩ = some (.string (str codem)) ∧ W.cell? ⟨mb, 1, none⟩ = some (.slice A1m n1m c1m) ∧ W.cell? ⟨mb, 2, none⟩ = some (.int .i64 tickm) ∧ W.cell? ⟨mb, 3, none⟩ = some (.int .i64 lowm) ∧ W.cell? ⟨mb, 4, none⟩ = some (.int .i64 highm) ∧ W.cell? ⟨mb, 5, none⟩ = some (.int .i64 widem) ∧ W.cell? ⟨mb, 6, none⟩ = some (.int .i64 rulem) ∧ W.cell? ⟨mb, 7, none⟩ = some (.int .i64 topm) ∧ W.cell? ⟨mb, 8, none⟩ = some (.int .i64 leastm) ∧ W.cell? ⟨mb, 9, none⟩ = some (.int .i64 partm) ∧ W.cell? ⟨mb, 10, none⟩ = some (.slice A2m n2m c2m) ∧ Below w5.heap.size w5 W) W') := Lib.hid (fun W W' hs b => ⟨(b.cell (World.block_lt_of_cell? W _ hs.1)).trans hs.1, (b.cell (World.block_lt_of_cell? W _ hs.2.1)).trans hs.2.1, (b.cell (World.block_lt_of_cell? W _ hs.2.2.1)).trans hs.2.2.1, (b.cell (World.block_lt_of_cell? W _ hs.2.2.2.1)).trans hs.2.2.2.1, (b.cell (World.block_lt_of_cell? W _ hs.2.2.2.2.1)).trans hs.2.2.2.2.1, (b.cell (World.block_lt_of_cell? W _ hs.2.2.2.2.2.1)).trans hs.2.2.2.2.2.1, (b.cell (World.block_lt_of_cell? W _ hs.2.2.2.2.2.2.1)).trans hs.2.2.2.2.2.2.1, (b.cell (World.block_lt_of_cell? W _ hs.2.2.2.2.2.2.2.1)).trans hs.2.2.2.2.2.2.2.1, (b.cell (World.block_lt_of_cell? W _ hs.2.2.2.2.2.2.2.2.1)).trans hs.2.2.2.2.2.2.2.2.1, (b.cell (World.block_lt_of_cell? W _ hs.2.2.2.2.2.2.2.2.2.1)).trans hs.2.2.2.2.2.2.2.2.2.1, (b.cell (World.block_lt_of_cell? W _ hs.2.2.2.2.2.2.2.2.2.2.1)).trans hs.2.2.2.2.2.2.2.2.2.2.1, hs.2.2.2.2.2.2.2.2.2.2.2.trans (b.mono hs.2.2.2.2.2.2.2.2.2.2.2.size)⟩)
    obtain ⟨k0, k1, k2, k3, k4, k5, k6, k7, k8, k9, k10⟩ := row11 (hm5.out w5 (Below.refl _ _))
    have z0 : (fun W : World => W.cell? ⟨mb, 0, none⟩ = some (.string (str codem)) ∧ W.cell? ⟨mb, 1, none⟩ = some (.slice A1m n1m c1m) ∧ W.cell? ⟨mb, 2, none⟩ = some (.int .i64 tickm) ∧ W.cell? ⟨mb, 3, none⟩ = some (.int .i64 lowm) ∧ W.cell? ⟨mb, 4, none⟩ = some (.int .i64 highm) ∧ W.cell? ⟨mb, 5, none⟩ = some (.int .i64 widem) ∧ W.cell? ⟨mb, 6, none⟩ = some (.int .i64 rulem) ∧ W.cell? ⟨mb, 7, none⟩ = some (.int .i64 topm) ∧ W.cell? ⟨mb, 8, none⟩ = some (.int .i64 leastm) ∧ W.cell? ⟨mb, 9, none⟩ = some (.int .i64 partm) ∧ W.cell? ⟨mb, 10, none⟩ = some (.slice A2m n2m c2m) ∧ Below w5.heap.size w5 W) w5.drew := ⟨k0, k1, k2, k3, k4, k5, k6, k7, k8, k9, k10, (Below.refl _ w5).drew⟩
    clear k0 k1 k2 k3 k4 k5 k6 k7 k8 k9 k10
    have wcn1 : IntKind.i64.wrap ((cn : Int) - 1) = (cn : Int) - 1 := wrap_in (by omega) (by omega)
    go_upto_region 4 with (fail)
    refine wp_region_held_drew (S := (fun W : World => W.cell? ⟨mb, 0, none⟩ = some (.string (str codem)) ∧ W.cell? ⟨mb, 1, none⟩ = some (.slice A1m n1m c1m) ∧ W.cell? ⟨mb, 2, none⟩ = some (.int .i64 tickm) ∧ W.cell? ⟨mb, 3, none⟩ = some (.int .i64 lowm) ∧ W.cell? ⟨mb, 4, none⟩ = some (.int .i64 highm) ∧ W.cell? ⟨mb, 5, none⟩ = some (.int .i64 widem) ∧ W.cell? ⟨mb, 6, none⟩ = some (.int .i64 rulem) ∧ W.cell? ⟨mb, 7, none⟩ = some (.int .i64 topm) ∧ W.cell? ⟨mb, 8, none⟩ = some (.int .i64 leastm) ∧ W.cell? ⟨mb, 9, none⟩ = some (.int .i64 partm) ∧ W.cell? ⟨mb, 10, none⟩ = some (.slice A2m n2m c2m) ∧ Below w5.heap.size w5 W)) (by kernel_rfl) z0 (fun hHeld => ?_)
    refine wpAnyH_take (i := 0) (v := .agg #[.string (str codem), .slice A1m n1m c1m, .int .i64 tickm, .int .i64 lowm, .int .i64 highm, .int .i64 widem, .int .i64 rulem, .int .i64 topm, .int .i64 leastm, .int .i64 partm, .slice A2m n2m c2m]) rfl (by kernel_rfl) (by kernel_rfl) (by kernel_rfl) (fun _ _ _ h => h) (Or.inl ⟨by kernel_rfl, fun W hSw => ?_⟩) (by assumption) ?_
    · (try dsimp only at hSw)
      go_simp
    (try simp only [Act.put, List.setIfInBounds_toArray, List.set_cons_zero, List.set_cons_succ])
    refine wpAnyH_take (i := 1) (v := .slice A5 cn c5) rfl (by kernel_rfl) (by kernel_rfl) (by kernel_rfl) (fun _ _ _ h => h) (Or.inl ⟨by kernel_rfl, fun W hSw => ?_⟩) (by assumption) ?_
    · (try dsimp only at hSw)
      go_simp
    (try simp only [Act.put, List.setIfInBounds_toArray, List.set_cons_zero, List.set_cons_succ])
    refine wpAnyH_take (i := 2) (v := .int .i64 inst) rfl (by kernel_rfl) (by kernel_rfl) (by kernel_rfl) (fun _ _ _ h => h) (Or.inl ⟨by kernel_rfl, fun W hSw => ?_⟩) (by assumption) ?_
    · (try dsimp only at hSw)
      go_simp
    (try simp only [Act.put, List.setIfInBounds_toArray, List.set_cons_zero, List.set_cons_succ])
    refine wpAnyH_take (i := 3) (v := .slice A5 cn c5) rfl (by kernel_rfl) (by kernel_rfl) (by kernel_rfl) (fun _ _ _ h => h) (Or.inl ⟨by kernel_rfl, fun W hSw => ?_⟩) (by assumption) ?_
    · (try dsimp only at hSw)
      go_simp
    (try simp only [Act.put, List.setIfInBounds_toArray, List.set_cons_zero, List.set_cons_succ])
    refine wpAnyH_take (i := 4) (v := .int .i64 (cn : Int)) rfl (by kernel_rfl) (by kernel_rfl) (by kernel_rfl) (fun _ _ _ h => h) (Or.inl ⟨by kernel_rfl, fun W hSw => ?_⟩) (by assumption) ?_
    · (try dsimp only at hSw)
      go_simp
    (try simp only [Act.put, List.setIfInBounds_toArray, List.set_cons_zero, List.set_cons_succ])
    refine wpAnyH_take (i := 5) (v := .int .i64 ((cn : Int) - 1)) rfl (by kernel_rfl) (by kernel_rfl) (by kernel_rfl) (fun _ _ _ h => h) (Or.inl ⟨by kernel_rfl, fun W hSw => ?_⟩) (by assumption) ?_
    · (try dsimp only at hSw)
      go_simp
    (try simp only [Act.put, List.setIfInBounds_toArray, List.set_cons_zero, List.set_cons_succ])
    refine wpAnyH_take (i := 7) (v := .int .i64 1) rfl (by kernel_rfl) (by kernel_rfl) (by kernel_rfl) (fun _ _ _ h => h) (Or.inl ⟨by kernel_rfl, fun W hSw => ?_⟩) (by assumption) ?_
    · (try dsimp only at hSw)
      go_simp
    (try simp only [Act.put, List.setIfInBounds_toArray, List.set_cons_zero, List.set_cons_succ])
    refine wpAnyH_ready (rs := [6]) (by kernel_rfl) (by simp) ?_
    refine AllReadyH.cons rfl (fun K hK => ?_) AllReadyH.nil
    go_simp
    refine (HWkk.out _).mono ?_
    rintro e ux ⟨rfl, eux⟩
    obtain rfl := eux.symm
    go_wp2_with fail
    refine hK.out _ _ z0 (fun hHeld => ?_)
    clear hK K
    (try simp only [Act.put, List.setIfInBounds_toArray, List.set_cons_zero, List.set_cons_succ])
    refine wpAnyH_ready (rs := [8]) (by kernel_rfl) (by simp) ?_
    refine AllReadyH.cons rfl (fun K hK => ?_) AllReadyH.nil
    go_simp
    refine (HQ.out w5.drew (Below.refl _ w5).drew).mono ?_
    rintro e w6 ⟨A6, n6, c6, rfl, hv, -, -, -, -, bb⟩
    have z6 := hSof.out _ _ z0 bb
    obtain rfl : n6 = LQ.length := hv.1.symm
    go_wp2_with fail
    refine hK.out _ _ z6 (fun hHeld => ?_)
    clear hK K
    (try simp only [Act.put, List.setIfInBounds_toArray, List.set_cons_zero, List.set_cons_succ])
    refine wpAnyH_take (i := 9) (v := .slice A6 LQ.length c6) rfl (by kernel_rfl) (by kernel_rfl) (by kernel_rfl) (fun _ _ _ h => h) (Or.inl ⟨by kernel_rfl, fun W hSw => ?_⟩) (by assumption) ?_
    · (try dsimp only at hSw)
      go_simp
    (try simp only [Act.put, List.setIfInBounds_toArray, List.set_cons_zero, List.set_cons_succ])
    refine wpAnyH_done (by kernel_rfl) ?_ _
    (try simp only [List.getElem_toArray, List.getElem_cons_succ, List.getElem_cons_zero, Act.put, List.setIfInBounds_toArray, List.set_cons_zero, List.set_cons_succ])
    have B6 := Lib.hid (below_top hB5.out (show Below w5.heap.size w5 w6 from z6.2.2.2.2.2.2.2.2.2.2.2))
    have h6 := Lib.hid hv
    have hV6 : Hid (∀ W, Below w6.heap.size w6 W → HV fQt W A6 LQ.length LQ) := Lib.hid (fun W b => hv.below b)
    have HB : ∀ W, HV fQt W A6 LQ.length LQ → Calls Try.prog 12 #[.slice A6 LQ.length c6, .int .i64 1] W _ := fun W hv => PBest14_any A6 LQ.length c6 LQ 1 W (Lib.hid hv) hokQ (by omega) (by omega) (by omega)
    have HS : ∀ W, HV fQt W A6 LQ.length LQ → Calls Try.prog 22 #[.slice A6 LQ.length c6, .int .i64 1] W _ := fun W hv => PShow_any A6 LQ.length c6 LQ 1 W (Lib.hid hv) hokQ (by omega) (by omega) (by omega)
    clear hHeld z0 z6 hSof bb hv HWkk HWkb hm5 hokQ
    cases LQ with
    | nil =>
      rw [show bestP [] 1 = (⟨0, 0, 0, 0, 0, 0⟩, false) from rfl] at HB
      rw [show showP [] 1 = (0, 0, 0, false) from rfl] at HS
      rw [show Qt.val ⟨0, 0, 0, 0, 0, 0⟩ = .agg #[.int .i64 0, .int .i64 0, .int .i64 0, .int .i64 0, .int .i64 0, .int .i64 0] from rfl] at HB
      simp only [List.length_nil] at HB HS ⊢
      replace HB := Lib.hid HB
      replace HS := Lib.hid HS
      have hd : decide ((0 : Int) < ((0 : Nat) : Int)) = false := by simp
      go_wp2_with fail
      refine (HB.out w6 h6.out).mono ?_
      rintro e w7 ⟨rfl, b7⟩
      have b78 := b7.alloc b7.size (.cells #[.int .i64 0, .int .i64 0, .int .i64 0, .int .i64 0, .int .i64 0, .int .i64 0] 37)
      obtain ⟨w8, e8⟩ : ∃ W, w7.alloc (.cells #[.int .i64 0, .int .i64 0, .int .i64 0, .int .i64 0, .int .i64 0, .int .i64 0] 37) = W := ⟨_, rfl⟩
      rw [e8] at b78
      have h8 := Lib.hid (hV6.out _ b78)
      have B8 := Lib.hid (below_top B6.out b78)
      replace e8 := Lib.hid e8
      clear b7 b78
      go_upto_region 6 with (fail)
      rw [e8.out]
      go_wp2_with fail
      refine (HS.out w8 h8.out).mono ?_
      rintro e w9 ⟨rfl, b9⟩
      have B9 := Lib.hid (below_top B8.out b9)
      clear b9
      go_wp2_with fail
      refine (Known_any w9).mono ?_
      rintro e wk ⟨rfl, bb⟩
      have Bk := Lib.hid (below_top B9.out bb)
      clear bb
      go_wp2_with fail
      go_ret
      exact ⟨rfl, Bk.out⟩
    | cons x0 r =>
      have hsp := showP_some (l := x0 :: r) hpos 1 rfl
      rw [show bestP (x0 :: r) 1 = (bestFrom 1 x0 r, true) from rfl] at HB
      rw [hsp] at HS
      have hTop := bestFrom_top 1 x0 r
      obtain ⟨i0, hi0, hpre⟩ := bestFrom_first 1 x0 r
      obtain ⟨b, eb⟩ : ∃ b, bestFrom 1 x0 r = b := ⟨_, rfl⟩
      rw [eb] at HB HS hTop hi0 hpre
      have hTop2 : ∀ y : Qt, y ∈ x0 :: r → betS 1 y.p b.p = false := fun y hy => hTop y (List.mem_cons.1 hy)
      obtain ⟨LL, eL⟩ : ∃ l, x0 :: r = l := ⟨_, rfl⟩
      have hpl : 0 < LL.length := by rw [← eL]; simp
      rw [eL] at HB HS hTop2 hi0 hpre h6 hV6 hlen ⊢
      clear hTop eL eb hpos hsp
      obtain ⟨bp, bn, bi, bs, bj, bt⟩ := b
      rw [show Qt.val ⟨bp, bn, bi, bs, bj, bt⟩ = .agg #[.int .i64 bp, .int .i64 bn, .int .i64 bi, .int .i64 bs, .int .i64 bj, .int .i64 bt] from rfl] at HB
      simp only at HS hpre hTop2
      obtain ⟨nn, enn⟩ : ∃ k, LL.length = k := ⟨_, rfl⟩
      rw [enn] at HB HS h6 hV6 hlen hpl ⊢
      obtain ⟨mq, emq⟩ : ∃ z, mostQ bp 0 LL = z := ⟨_, rfl⟩
      obtain ⟨cq, ecq⟩ : ∃ z, countQ bp LL = z := ⟨_, rfl⟩
      rw [emq, ecq] at HS
      have hi0n : i0 < nn := by rw [← enn]; exact (List.getElem?_eq_some_iff.1 hi0).1
      have hms : Hid (∀ k y, LL[k]? = some y → mostQ bp 0 (LL.take (k + 1)) = if y.p = bp ∧ mostQ bp 0 (LL.take k) < y.n then y.n else mostQ bp 0 (LL.take k)) := Lib.hid (fun k y h => by rw [List.take_add_one, h, Option.toList_some, mostQ_snoc])
      have hcs : Hid (∀ k y, LL[k]? = some y → countQ bp (LL.take (k + 1)) = countQ bp (LL.take k) + if y.p = bp then 1 else 0) := Lib.hid (fun k y h => by rw [List.take_add_one, h, Option.toList_some, countQ_snoc])
      have hend : Hid (LL.take nn = LL) := Lib.hid (List.take_of_length_le (by omega))
      have hex : Hid (∀ k, k < nn → ∃ y, LL[k]? = some y) := Lib.hid (fun k hk => ⟨_, List.getElem?_eq_getElem (by omega)⟩)
      have hm0 : Hid (mostQ bp 0 (LL.take 0) = 0) := Lib.hid (by rw [List.take_zero]; rfl)
      have hc0 : Hid (countQ bp (LL.take 0) = 0) := Lib.hid (by rw [List.take_zero]; rfl)
      have hf0 : Hid (true = decide (0 ≤ i0)) := Lib.hid (by simp)
      have hmem : Hid (∀ (k : Nat) (y : Qt), LL[k]? = some y → betS 1 y.p bp = false) := Lib.hid (fun k y h => hTop2 y (List.mem_of_getElem? h))
      replace hi0 := Lib.hid hi0
      replace hpre := Lib.hid hpre
      replace emq := Lib.hid emq
      replace ecq := Lib.hid ecq
      replace HB := Lib.hid HB
      replace HS := Lib.hid HS
      replace enn := Lib.hid enn
      clear hTop2
      have hd : decide ((0 : Int) < (nn : Int)) = true := decide_eq_true (by omega)
      have hd' : decide (0 < nn) = true := decide_eq_true hpl
      go_wp2_with fail
      refine (HB.out w6 h6.out).mono ?_
      rintro e w7 ⟨rfl, b7⟩
      obtain ⟨gx, egx⟩ : ∃ x, w7.heap.size = x := ⟨_, rfl⟩
      obtain ⟨w8, e8⟩ : ∃ W, w7.alloc (.cells #[.int .i64 bp, .int .i64 bn, .int .i64 bi, .int .i64 bs, .int .i64 bj, .int .i64 bt] 37) = W := ⟨_, rfl⟩
      have b78 : Below w6.heap.size w6 w8 := by rw [← e8]; exact b7.alloc b7.size _
      have hgx : w8.heap[gx]? = some (.cells #[.int .i64 bp, .int .i64 bn, .int .i64 bi, .int .i64 bs, .int .i64 bj, .int .i64 bt] 37 (0, 0)) := by rw [← e8, ← egx]; exact heap_alloc_new w7 _
      have hV8 : Hid (∀ W, Below w8.heap.size w8 W → HV fQt W A6 nn LL) := Lib.hid (fun W b => hV6.out W (below_top b78 b))
      have hX8 : Hid (∀ W, Below w8.heap.size w8 W → W.heap[gx]? = some (.cells #[.int .i64 bp, .int .i64 bn, .int .i64 bi, .int .i64 bs, .int .i64 bj, .int .i64 bt] 37 (0, 0))) := Lib.hid (fun W b => (b.block gx (Array.getElem?_eq_some_iff.1 hgx).1).trans hgx)
      have h8 := Lib.hid (hV6.out _ b78)
      have B8 := Lib.hid (below_top B6.out b78)
      replace e8 := Lib.hid e8
      replace egx := Lib.hid egx
      clear b7 b78 hgx h6 hV6
      go_upto_region 6 with (fail)
      rw [e8.out, egx.out]
      clear e8 egx
      go_wp2_with fail
      refine (HS.out w8 h8.out).mono ?_
      rintro e w9 ⟨rfl, b9⟩
      have B9 := Lib.hid (below_top B8.out b9)
      have hV9 : Hid (∀ W, Below w9.heap.size w9 W → HV fQt W A6 nn LL) := Lib.hid (fun W b => hV8.out _ (below_top b9 b))
      have B99 := Lib.hid (Below.refl w9.heap.size w9)
      have hX9 : Hid (∀ W, Below w9.heap.size w9 W → W.heap[gx]? = some (.cells #[.int .i64 bp, .int .i64 bn, .int .i64 bi, .int .i64 bs, .int .i64 bj, .int .i64 bt] 37 (0, 0))) := Lib.hid (fun W b => hX8.out _ (below_top b9 b))
      clear b9 h8 hX8 hV8
      go_wp2_with fail
      go_loopw [18, 19, 20, 21] (fun qv nv fv iv wr => ∃ (k cc : Nat) (q : Int) (f : Bool), iv = .int .i64 (k : Int) ∧ qv = .int .i64 q ∧ nv = .int .i64 (cc : Int) ∧ fv = .bool f ∧ k ≤ nn ∧ cc ≤ k ∧ Hid (mostQ bp 0 (LL.take k) = q) ∧ Hid (countQ bp (LL.take k) = cc) ∧ Hid (f = decide (k ≤ i0)) ∧ Hid (Below w9.heap.size w9 wr)) (fun _ _ _ iv _ => nn - (intOf iv).toNat)
      case atStart => exact ⟨0, 0, 0, true, rfl, rfl, rfl, rfl, by omega, by omega, hm0, hc0, hf0, B99⟩
      case round =>
        clear hm0 hc0 hf0 B99
        obtain ⟨k, cc, q, f, rfl, rfl, rfl, rfl, hk, hcn, hq, hc, hf, hBi⟩ := hrel
        have X := row6 (hX9.out _ hBi.out)
        obtain ⟨z0, z1, z2, z3, z4, z5⟩ := X
        by_cases hlt : k < nn
        · have d1 : decide ((k : Int) < (nn : Int)) = true := decide_eq_true (by omega)
          have d3 : (k : Int) < (nn : Int) := by omega
          obtain ⟨y, hy⟩ := hex.out k hlt
          obtain ⟨b, off, rfl, y0, y1, y2, y3, y4, y5⟩ := (hV9.out _ hBi.out).atQ hy
          have hm := hms.out k y hy
          have hc2 := hcs.out k y hy
          have hbt := hmem.out k y hy
          rw [hq.out] at hm
          rw [hc.out] at hc2
          have hp0 : k < i0 → y.p ≠ bp := fun h => hpre.out k y h hy
          have hb0 : k = i0 → y = ⟨bp, bn, bi, bs, bj, bt⟩ := fun h => by
            have := hi0.out
            rw [← h, hy] at this
            exact Option.some.inj this
          obtain ⟨yp, yn, yi, ys, yj, yt⟩ := y
          simp only at y0 y1 y2 y3 y4 y5 hm hc2 hp0 hbt
          have db : decide (bp < yp) = false := hbt
          have hk1 : k + 1 ≤ nn := by omega
          have wcn : Hid (wrap64 ((cc : Int) + 1) = (cc : Int) + 1) := Lib.hid (IntWalk.wrap64_in _ ⟨by omega, by omega⟩)
          clear hq hc hlt hbt
          replace hy := Lib.hid hy
          by_cases hyp : yp = bp
          · have dp : (yp == bp) = true := by rw [hyp]; simp
            have hc3 : Hid (countQ bp (LL.take (k + 1)) = cc + 1) := Lib.hid (by rw [hc2, if_pos hyp])
            have hki : i0 ≤ k := by
              rcases Nat.lt_or_ge k i0 with h | h
              · exact absurd hyp (hp0 h)
              · exact h
            have hf2 : Hid (false = decide (k + 1 ≤ i0)) := Lib.hid (by rw [decide_eq_false (by omega)])
            clear hc2 hp0
            cases f with
            | true =>
              have hke : k = i0 := by have := of_decide_eq_true hf.out.symm; omega
              have hyb := hb0 hke
              injection hyb with v0 v1 v2 v3 v4 v5
              have hne : ∀ W : World, (binOp .neq 37 (.agg #[.int .i64 yp, .int .i64 yn, .int .i64 yi, .int .i64 ys, .int .i64 yj, .int .i64 yt]) (.agg #[.int .i64 bp, .int .i64 bn, .int .i64 bi, .int .i64 bs, .int .i64 bj, .int .i64 bt])).run Try.prog W = .ok (.bool false) W := fun W => by rw [neq_quote, v0, v1, v2, v3, v4, v5]; simp
              replace v0 := Lib.hid v0; replace v1 := Lib.hid v1; replace v2 := Lib.hid v2; replace v3 := Lib.hid v3; replace v4 := Lib.hid v4; replace v5 := Lib.hid v5
              clear hb0 hke
              have hyp' := Lib.hid hyp
              clear hyp
              have hyp : yp = bp := hyp'.out
              clear hyp'
              by_cases hgt : q < yn
              · have dg : decide (q < yn) = true := decide_eq_true hgt
                have hm2 : Hid (mostQ bp 0 (LL.take (k + 1)) = yn) := Lib.hid (by rw [hm, if_pos ⟨hyp, hgt⟩])
                clear hm hgt
                replace hyp := Lib.hid hyp
                go_wp2_with fail
                go_quiet (fail)
                go_wp2_with fail
                go_quiet (fail)
                go_wp2_with fail
                go_quiet (fail)
                go_wp2_with fail
                go_roundw
                case rel => exact ⟨k + 1, cc + 1, yn, false, by go_num, rfl, by go_num, rfl, hk1, Nat.succ_le_succ hcn, hm2, hc3, hf2, Lib.hid (below_drewN hBi.out _)⟩
                case measure => simp [intOf]; omega
              · have dg : decide (q < yn) = false := decide_eq_false hgt
                have hm2 : Hid (mostQ bp 0 (LL.take (k + 1)) = q) := Lib.hid (by rw [hm, if_neg (fun h => hgt h.2)])
                clear hm hgt
                replace hyp := Lib.hid hyp
                go_wp2_with fail
                go_quiet (fail)
                go_wp2_with fail
                go_quiet (fail)
                go_wp2_with fail
                go_quiet (fail)
                go_wp2_with fail
                go_roundw
                case rel => exact ⟨k + 1, cc + 1, q, false, by go_num, rfl, by go_num, rfl, hk1, Nat.succ_le_succ hcn, hm2, hc3, hf2, Lib.hid (below_drewN hBi.out _)⟩
                case measure => simp [intOf]; omega
            | false =>
              clear hb0
              by_cases hgt : q < yn
              · have dg : decide (q < yn) = true := decide_eq_true hgt
                have hm2 : Hid (mostQ bp 0 (LL.take (k + 1)) = yn) := Lib.hid (by rw [hm, if_pos ⟨hyp, hgt⟩])
                clear hm hgt
                replace hyp := Lib.hid hyp
                go_wp2_with fail
                go_quiet (fail)
                go_wp2_with fail
                go_quiet (fail)
                go_wp2_with fail
                go_quiet (fail)
                go_wp2_with fail
                go_roundw
                case rel => exact ⟨k + 1, cc + 1, yn, false, by go_num, rfl, by go_num, rfl, hk1, Nat.succ_le_succ hcn, hm2, hc3, hf2, Lib.hid (below_drewN hBi.out _)⟩
                case measure => simp [intOf]; omega
              · have dg : decide (q < yn) = false := decide_eq_false hgt
                have hm2 : Hid (mostQ bp 0 (LL.take (k + 1)) = q) := Lib.hid (by rw [hm, if_neg (fun h => hgt h.2)])
                clear hm hgt
                replace hyp := Lib.hid hyp
                go_wp2_with fail
                go_quiet (fail)
                go_wp2_with fail
                go_quiet (fail)
                go_wp2_with fail
                go_quiet (fail)
                go_wp2_with fail
                go_roundw
                case rel => exact ⟨k + 1, cc + 1, q, false, by go_num, rfl, by go_num, rfl, hk1, Nat.succ_le_succ hcn, hm2, hc3, hf2, Lib.hid (below_drewN hBi.out _)⟩
                case measure => simp [intOf]; omega
          · have dp : (yp == bp) = false := beq_eq_false_iff_ne.2 hyp
            have dp2 : decide (yp = bp) = false := decide_eq_false hyp
            have hc3 : Hid (countQ bp (LL.take (k + 1)) = cc) := Lib.hid (by rw [hc2, if_neg hyp]; rfl)
            have hm2 : Hid (mostQ bp 0 (LL.take (k + 1)) = q) := Lib.hid (by rw [hm, if_neg (fun h => hyp h.1)])
            have hki : k ≠ i0 := fun h => by
              have hb1 := hb0 h
              injection hb1 with v0
              exact hyp v0
            have hf2 : Hid (f = decide (k + 1 ≤ i0)) := Lib.hid (by
              rw [hf.out]
              by_cases h : k ≤ i0
              · rw [decide_eq_true h, decide_eq_true (by omega)]
              · rw [decide_eq_false h, decide_eq_false (by omega)])
            clear hm hc2 hyp hp0 hb0 hki
            go_wp2_with fail
            go_quiet (fail)
            go_wp2_with fail
            go_quiet (fail)
            go_wp2_with fail
            go_roundw
            case rel => exact ⟨k + 1, cc, q, f, by go_num, rfl, rfl, rfl, hk1, Nat.le_succ_of_le hcn, hm2, hc3, hf2, Lib.hid (below_drewN hBi.out _)⟩
            case measure => simp [intOf]; omega
        · obtain rfl : nn = k := by omega
          have d1 : decide ((nn : Int) < (nn : Int)) = false := by simp
          have e1 := hq.out
          have e2 := hc.out
          rw [hend.out, emq.out] at e1
          rw [hend.out, ecq.out] at e2
          subst e1
          subst e2
          have q1 : (bp == bp) = true := by simp
          have q2 : (mq == mq) = true := by simp
          have q3 : ((cq : Int) == (cq : Int)) = true := by simp
          have B10 := Lib.hid (below_top B9.out hBi.out)
          clear hq hc hlt hk hf
          go_wp2_with fail
          refine (Known_any _).mono ?_
          rintro e wk ⟨rfl, bb⟩
          have Bk := Lib.hid (below_top B10.out bb)
          clear bb
          go_wp2_with fail
          go_ret
          exact ⟨rfl, Bk.out⟩
  · skip
    have HQ : Hid (∀ W, Below w5.heap.size w5 W → Calls Try.prog 13 #[.agg #[.string (str codem), .slice A1m n1m c1m, .int .i64 tickm, .int .i64 lowm, .int .i64 highm, .int .i64 widem, .int .i64 rulem, .int .i64 topm, .int .i64 leastm, .int .i64 partm, .slice A2m n2m c2m], .slice A5 cn c5, .int .i64 (kk : Int), .int .i64 2] W (AnsQ W.heap.size W (quotesQ ⟨codem, A1m, n1m, c1m, tickm, lowm, highm, widem, rulem, topm, leastm, partm, A2m, n2m, c2m, Qm, Rm⟩ TL (kk : Int) 2))) := Lib.hid (fun W b => PQuotes_any ⟨codem, A1m, n1m, c1m, tickm, lowm, highm, widem, rulem, topm, leastm, partm, A2m, n2m, c2m, Qm, Rm⟩ A5 cn c5 TL (kk : Int) 2 W (Lib.hid (hOk5.out W b)) (Lib.hid (hV5.out W b)) ht2 ⟨by omega, by omega⟩ ⟨by omega, by omega⟩ (by omega))
    have hlen : (quotesQ ⟨codem, A1m, n1m, c1m, tickm, lowm, highm, widem, rulem, topm, leastm, partm, A2m, n2m, c2m, Qm, Rm⟩ TL (kk : Int) 2).length ≤ 100 := quotesQ_len
    have hokQ := Lib.hid (quotesQ_ok (p := ⟨codem, A1m, n1m, c1m, tickm, lowm, highm, widem, rulem, topm, leastm, partm, A2m, n2m, c2m, Qm, Rm⟩) ht2.out (kk : Int) 2)
    have hpos : ∀ q ∈ quotesQ ⟨codem, A1m, n1m, c1m, tickm, lowm, highm, widem, rulem, topm, leastm, partm, A2m, n2m, c2m, Qm, Rm⟩ TL (kk : Int) 2, 0 ≤ q.n := fun q hq => allQ_pos ht4.out (List.mem_filter.1 hq).1
    obtain ⟨LQ, eLQ⟩ : ∃ l, quotesQ ⟨codem, A1m, n1m, c1m, tickm, lowm, highm, widem, rulem, topm, leastm, partm, A2m, n2m, c2m, Qm, Rm⟩ TL (kk : Int) 2 = l := ⟨_, rfl⟩
    rw [eLQ] at HQ hlen hokQ hpos
    clear eLQ ht2 ht3 ht4 hk hOk5 hV5
    go_wp2_with fail
    refine (HWkb.out _).mono ?_
    rintro e ux ⟨rfl, eux⟩
    obtain rfl := eux.symm
    have hSof : Hid (∀ W W' : World, (fun W : World => W.cell? ⟨mb, 0, none⟩ = some (.string (str codem)) ∧ W.cell? ⟨mb, 1, none⟩ = some (.slice A1m n1m c1m) ∧ W.cell? ⟨mb, 2, none⟩ = some (.int .i64 tickm) ∧ W.cell? ⟨mb, 3, none⟩ = some (.int .i64 lowm) ∧ W.cell? ⟨mb, 4, none⟩ = some (.int .i64 highm) ∧ W.cell? ⟨mb, 5, none⟩ = some (.int .i64 widem) ∧ W.cell? ⟨mb, 6, none⟩ = some (.int .i64 rulem) ∧ W.cell? ⟨mb, 7, none⟩ = some (.int .i64 topm) ∧ W.cell? ⟨mb, 8, none⟩ = some (.int .i64 leastm) ∧ W.cell? ⟨mb, 9, none⟩ = some (.int .i64 partm) ∧ W.cell? ⟨mb, 10, none⟩ = some (.slice A2m n2m c2m) ∧ Below w5.heap.size w5 W) W → Below W.heap.size W W' → (fun W : World => W.cell? ⟨mb, 0, none⟩ = some (.string (str codem)) ∧ W.cell? ⟨mb, 1, none⟩ = some (.slice A1m n1m c1m) ∧ W.cell? ⟨mb, 2, none⟩ = some (.int .i64 tickm) ∧ W.cell? ⟨mb, 3, none⟩ = some (.int .i64 lowm) ∧ W.cell? ⟨mb, 4, none⟩ = some (.int .i64 highm) ∧ W.cell? ⟨mb, 5, none⟩ = some (.int .i64 widem) ∧ W.cell? ⟨mb, 6, none⟩ = some (.int .i64 rulem) ∧ W.cell? ⟨mb, 7, none⟩ = some (.int .i64 topm) ∧ W.cell? ⟨mb, 8, none⟩ = some (.int .i64 leastm) ∧ W.cell? ⟨mb, 9, none⟩ = some (.int .i64 partm) ∧ W.cell? ⟨mb, 10, none⟩ = some (.slice A2m n2m c2m) ∧ Below w5.heap.size w5 W) W') := Lib.hid (fun W W' hs b => ⟨(b.cell (World.block_lt_of_cell? W _ hs.1)).trans hs.1, (b.cell (World.block_lt_of_cell? W _ hs.2.1)).trans hs.2.1, (b.cell (World.block_lt_of_cell? W _ hs.2.2.1)).trans hs.2.2.1, (b.cell (World.block_lt_of_cell? W _ hs.2.2.2.1)).trans hs.2.2.2.1, (b.cell (World.block_lt_of_cell? W _ hs.2.2.2.2.1)).trans hs.2.2.2.2.1, (b.cell (World.block_lt_of_cell? W _ hs.2.2.2.2.2.1)).trans hs.2.2.2.2.2.1, (b.cell (World.block_lt_of_cell? W _ hs.2.2.2.2.2.2.1)).trans hs.2.2.2.2.2.2.1, (b.cell (World.block_lt_of_cell? W _ hs.2.2.2.2.2.2.2.1)).trans hs.2.2.2.2.2.2.2.1, (b.cell (World.block_lt_of_cell? W _ hs.2.2.2.2.2.2.2.2.1)).trans hs.2.2.2.2.2.2.2.2.1, (b.cell (World.block_lt_of_cell? W _ hs.2.2.2.2.2.2.2.2.2.1)).trans hs.2.2.2.2.2.2.2.2.2.1, (b.cell (World.block_lt_of_cell? W _ hs.2.2.2.2.2.2.2.2.2.2.1)).trans hs.2.2.2.2.2.2.2.2.2.2.1, hs.2.2.2.2.2.2.2.2.2.2.2.trans (b.mono hs.2.2.2.2.2.2.2.2.2.2.2.size)⟩)
    obtain ⟨k0, k1, k2, k3, k4, k5, k6, k7, k8, k9, k10⟩ := row11 (hm5.out w5 (Below.refl _ _))
    have z0 : (fun W : World => W.cell? ⟨mb, 0, none⟩ = some (.string (str codem)) ∧ W.cell? ⟨mb, 1, none⟩ = some (.slice A1m n1m c1m) ∧ W.cell? ⟨mb, 2, none⟩ = some (.int .i64 tickm) ∧ W.cell? ⟨mb, 3, none⟩ = some (.int .i64 lowm) ∧ W.cell? ⟨mb, 4, none⟩ = some (.int .i64 highm) ∧ W.cell? ⟨mb, 5, none⟩ = some (.int .i64 widem) ∧ W.cell? ⟨mb, 6, none⟩ = some (.int .i64 rulem) ∧ W.cell? ⟨mb, 7, none⟩ = some (.int .i64 topm) ∧ W.cell? ⟨mb, 8, none⟩ = some (.int .i64 leastm) ∧ W.cell? ⟨mb, 9, none⟩ = some (.int .i64 partm) ∧ W.cell? ⟨mb, 10, none⟩ = some (.slice A2m n2m c2m) ∧ Below w5.heap.size w5 W) w5.drew := ⟨k0, k1, k2, k3, k4, k5, k6, k7, k8, k9, k10, (Below.refl _ w5).drew⟩
    clear k0 k1 k2 k3 k4 k5 k6 k7 k8 k9 k10
    have wcn1 : IntKind.i64.wrap ((cn : Int) - 1) = (cn : Int) - 1 := wrap_in (by omega) (by omega)
    go_upto_region 4 with (fail)
    refine wp_region_held_drew (S := (fun W : World => W.cell? ⟨mb, 0, none⟩ = some (.string (str codem)) ∧ W.cell? ⟨mb, 1, none⟩ = some (.slice A1m n1m c1m) ∧ W.cell? ⟨mb, 2, none⟩ = some (.int .i64 tickm) ∧ W.cell? ⟨mb, 3, none⟩ = some (.int .i64 lowm) ∧ W.cell? ⟨mb, 4, none⟩ = some (.int .i64 highm) ∧ W.cell? ⟨mb, 5, none⟩ = some (.int .i64 widem) ∧ W.cell? ⟨mb, 6, none⟩ = some (.int .i64 rulem) ∧ W.cell? ⟨mb, 7, none⟩ = some (.int .i64 topm) ∧ W.cell? ⟨mb, 8, none⟩ = some (.int .i64 leastm) ∧ W.cell? ⟨mb, 9, none⟩ = some (.int .i64 partm) ∧ W.cell? ⟨mb, 10, none⟩ = some (.slice A2m n2m c2m) ∧ Below w5.heap.size w5 W)) (by kernel_rfl) z0 (fun hHeld => ?_)
    refine wpAnyH_take (i := 0) (v := .agg #[.string (str codem), .slice A1m n1m c1m, .int .i64 tickm, .int .i64 lowm, .int .i64 highm, .int .i64 widem, .int .i64 rulem, .int .i64 topm, .int .i64 leastm, .int .i64 partm, .slice A2m n2m c2m]) rfl (by kernel_rfl) (by kernel_rfl) (by kernel_rfl) (fun _ _ _ h => h) (Or.inl ⟨by kernel_rfl, fun W hSw => ?_⟩) (by assumption) ?_
    · (try dsimp only at hSw)
      go_simp
    (try simp only [Act.put, List.setIfInBounds_toArray, List.set_cons_zero, List.set_cons_succ])
    refine wpAnyH_take (i := 1) (v := .slice A5 cn c5) rfl (by kernel_rfl) (by kernel_rfl) (by kernel_rfl) (fun _ _ _ h => h) (Or.inl ⟨by kernel_rfl, fun W hSw => ?_⟩) (by assumption) ?_
    · (try dsimp only at hSw)
      go_simp
    (try simp only [Act.put, List.setIfInBounds_toArray, List.set_cons_zero, List.set_cons_succ])
    refine wpAnyH_take (i := 2) (v := .int .i64 inst) rfl (by kernel_rfl) (by kernel_rfl) (by kernel_rfl) (fun _ _ _ h => h) (Or.inl ⟨by kernel_rfl, fun W hSw => ?_⟩) (by assumption) ?_
    · (try dsimp only at hSw)
      go_simp
    (try simp only [Act.put, List.setIfInBounds_toArray, List.set_cons_zero, List.set_cons_succ])
    refine wpAnyH_take (i := 3) (v := .slice A5 cn c5) rfl (by kernel_rfl) (by kernel_rfl) (by kernel_rfl) (fun _ _ _ h => h) (Or.inl ⟨by kernel_rfl, fun W hSw => ?_⟩) (by assumption) ?_
    · (try dsimp only at hSw)
      go_simp
    (try simp only [Act.put, List.setIfInBounds_toArray, List.set_cons_zero, List.set_cons_succ])
    refine wpAnyH_take (i := 4) (v := .int .i64 (cn : Int)) rfl (by kernel_rfl) (by kernel_rfl) (by kernel_rfl) (fun _ _ _ h => h) (Or.inl ⟨by kernel_rfl, fun W hSw => ?_⟩) (by assumption) ?_
    · (try dsimp only at hSw)
      go_simp
    (try simp only [Act.put, List.setIfInBounds_toArray, List.set_cons_zero, List.set_cons_succ])
    refine wpAnyH_take (i := 5) (v := .int .i64 ((cn : Int) - 1)) rfl (by kernel_rfl) (by kernel_rfl) (by kernel_rfl) (fun _ _ _ h => h) (Or.inl ⟨by kernel_rfl, fun W hSw => ?_⟩) (by assumption) ?_
    · (try dsimp only at hSw)
      go_simp
    (try simp only [Act.put, List.setIfInBounds_toArray, List.set_cons_zero, List.set_cons_succ])
    refine wpAnyH_take (i := 7) (v := .int .i64 2) rfl (by kernel_rfl) (by kernel_rfl) (by kernel_rfl) (fun _ _ _ h => h) (Or.inl ⟨by kernel_rfl, fun W hSw => ?_⟩) (by assumption) ?_
    · (try dsimp only at hSw)
      go_simp
    (try simp only [Act.put, List.setIfInBounds_toArray, List.set_cons_zero, List.set_cons_succ])
    refine wpAnyH_ready (rs := [6]) (by kernel_rfl) (by simp) ?_
    refine AllReadyH.cons rfl (fun K hK => ?_) AllReadyH.nil
    go_simp
    refine (HWkk.out _).mono ?_
    rintro e ux ⟨rfl, eux⟩
    obtain rfl := eux.symm
    go_wp2_with fail
    refine hK.out _ _ z0 (fun hHeld => ?_)
    clear hK K
    (try simp only [Act.put, List.setIfInBounds_toArray, List.set_cons_zero, List.set_cons_succ])
    refine wpAnyH_ready (rs := [8]) (by kernel_rfl) (by simp) ?_
    refine AllReadyH.cons rfl (fun K hK => ?_) AllReadyH.nil
    go_simp
    refine (HQ.out w5.drew (Below.refl _ w5).drew).mono ?_
    rintro e w6 ⟨A6, n6, c6, rfl, hv, -, -, -, -, bb⟩
    have z6 := hSof.out _ _ z0 bb
    obtain rfl : n6 = LQ.length := hv.1.symm
    go_wp2_with fail
    refine hK.out _ _ z6 (fun hHeld => ?_)
    clear hK K
    (try simp only [Act.put, List.setIfInBounds_toArray, List.set_cons_zero, List.set_cons_succ])
    refine wpAnyH_take (i := 9) (v := .slice A6 LQ.length c6) rfl (by kernel_rfl) (by kernel_rfl) (by kernel_rfl) (fun _ _ _ h => h) (Or.inl ⟨by kernel_rfl, fun W hSw => ?_⟩) (by assumption) ?_
    · (try dsimp only at hSw)
      go_simp
    (try simp only [Act.put, List.setIfInBounds_toArray, List.set_cons_zero, List.set_cons_succ])
    refine wpAnyH_done (by kernel_rfl) ?_ _
    (try simp only [List.getElem_toArray, List.getElem_cons_succ, List.getElem_cons_zero, Act.put, List.setIfInBounds_toArray, List.set_cons_zero, List.set_cons_succ])
    have B6 := Lib.hid (below_top hB5.out (show Below w5.heap.size w5 w6 from z6.2.2.2.2.2.2.2.2.2.2.2))
    have h6 := Lib.hid hv
    have hV6 : Hid (∀ W, Below w6.heap.size w6 W → HV fQt W A6 LQ.length LQ) := Lib.hid (fun W b => hv.below b)
    have HB : ∀ W, HV fQt W A6 LQ.length LQ → Calls Try.prog 12 #[.slice A6 LQ.length c6, .int .i64 2] W _ := fun W hv => PBest14_any A6 LQ.length c6 LQ 2 W (Lib.hid hv) hokQ (by omega) (by omega) (by omega)
    have HS : ∀ W, HV fQt W A6 LQ.length LQ → Calls Try.prog 22 #[.slice A6 LQ.length c6, .int .i64 2] W _ := fun W hv => PShow_any A6 LQ.length c6 LQ 2 W (Lib.hid hv) hokQ (by omega) (by omega) (by omega)
    clear hHeld z0 z6 hSof bb hv HWkk HWkb hm5 hokQ
    cases LQ with
    | nil =>
      rw [show bestP [] 2 = (⟨0, 0, 0, 0, 0, 0⟩, false) from rfl] at HB
      rw [show showP [] 2 = (0, 0, 0, false) from rfl] at HS
      rw [show Qt.val ⟨0, 0, 0, 0, 0, 0⟩ = .agg #[.int .i64 0, .int .i64 0, .int .i64 0, .int .i64 0, .int .i64 0, .int .i64 0] from rfl] at HB
      simp only [List.length_nil] at HB HS ⊢
      replace HB := Lib.hid HB
      replace HS := Lib.hid HS
      have hd : decide ((0 : Int) < ((0 : Nat) : Int)) = false := by simp
      go_wp2_with fail
      refine (HB.out w6 h6.out).mono ?_
      rintro e w7 ⟨rfl, b7⟩
      have b78 := b7.alloc b7.size (.cells #[.int .i64 0, .int .i64 0, .int .i64 0, .int .i64 0, .int .i64 0, .int .i64 0] 37)
      obtain ⟨w8, e8⟩ : ∃ W, w7.alloc (.cells #[.int .i64 0, .int .i64 0, .int .i64 0, .int .i64 0, .int .i64 0, .int .i64 0] 37) = W := ⟨_, rfl⟩
      rw [e8] at b78
      have h8 := Lib.hid (hV6.out _ b78)
      have B8 := Lib.hid (below_top B6.out b78)
      replace e8 := Lib.hid e8
      clear b7 b78
      go_upto_region 6 with (fail)
      rw [e8.out]
      go_wp2_with fail
      refine (HS.out w8 h8.out).mono ?_
      rintro e w9 ⟨rfl, b9⟩
      have B9 := Lib.hid (below_top B8.out b9)
      clear b9
      go_wp2_with fail
      refine (Known_any w9).mono ?_
      rintro e wk ⟨rfl, bb⟩
      have Bk := Lib.hid (below_top B9.out bb)
      clear bb
      go_wp2_with fail
      go_ret
      exact ⟨rfl, Bk.out⟩
    | cons x0 r =>
      have hsp := showP_some (l := x0 :: r) hpos 2 rfl
      rw [show bestP (x0 :: r) 2 = (bestFrom 2 x0 r, true) from rfl] at HB
      rw [hsp] at HS
      have hTop := bestFrom_top 2 x0 r
      obtain ⟨i0, hi0, hpre⟩ := bestFrom_first 2 x0 r
      obtain ⟨b, eb⟩ : ∃ b, bestFrom 2 x0 r = b := ⟨_, rfl⟩
      rw [eb] at HB HS hTop hi0 hpre
      have hTop2 : ∀ y : Qt, y ∈ x0 :: r → betS 2 y.p b.p = false := fun y hy => hTop y (List.mem_cons.1 hy)
      obtain ⟨LL, eL⟩ : ∃ l, x0 :: r = l := ⟨_, rfl⟩
      have hpl : 0 < LL.length := by rw [← eL]; simp
      rw [eL] at HB HS hTop2 hi0 hpre h6 hV6 hlen ⊢
      clear hTop eL eb hpos hsp
      obtain ⟨bp, bn, bi, bs, bj, bt⟩ := b
      rw [show Qt.val ⟨bp, bn, bi, bs, bj, bt⟩ = .agg #[.int .i64 bp, .int .i64 bn, .int .i64 bi, .int .i64 bs, .int .i64 bj, .int .i64 bt] from rfl] at HB
      simp only at HS hpre hTop2
      obtain ⟨nn, enn⟩ : ∃ k, LL.length = k := ⟨_, rfl⟩
      rw [enn] at HB HS h6 hV6 hlen hpl ⊢
      obtain ⟨mq, emq⟩ : ∃ z, mostQ bp 0 LL = z := ⟨_, rfl⟩
      obtain ⟨cq, ecq⟩ : ∃ z, countQ bp LL = z := ⟨_, rfl⟩
      rw [emq, ecq] at HS
      have hi0n : i0 < nn := by rw [← enn]; exact (List.getElem?_eq_some_iff.1 hi0).1
      have hms : Hid (∀ k y, LL[k]? = some y → mostQ bp 0 (LL.take (k + 1)) = if y.p = bp ∧ mostQ bp 0 (LL.take k) < y.n then y.n else mostQ bp 0 (LL.take k)) := Lib.hid (fun k y h => by rw [List.take_add_one, h, Option.toList_some, mostQ_snoc])
      have hcs : Hid (∀ k y, LL[k]? = some y → countQ bp (LL.take (k + 1)) = countQ bp (LL.take k) + if y.p = bp then 1 else 0) := Lib.hid (fun k y h => by rw [List.take_add_one, h, Option.toList_some, countQ_snoc])
      have hend : Hid (LL.take nn = LL) := Lib.hid (List.take_of_length_le (by omega))
      have hex : Hid (∀ k, k < nn → ∃ y, LL[k]? = some y) := Lib.hid (fun k hk => ⟨_, List.getElem?_eq_getElem (by omega)⟩)
      have hm0 : Hid (mostQ bp 0 (LL.take 0) = 0) := Lib.hid (by rw [List.take_zero]; rfl)
      have hc0 : Hid (countQ bp (LL.take 0) = 0) := Lib.hid (by rw [List.take_zero]; rfl)
      have hf0 : Hid (true = decide (0 ≤ i0)) := Lib.hid (by simp)
      have hmem : Hid (∀ (k : Nat) (y : Qt), LL[k]? = some y → betS 2 y.p bp = false) := Lib.hid (fun k y h => hTop2 y (List.mem_of_getElem? h))
      replace hi0 := Lib.hid hi0
      replace hpre := Lib.hid hpre
      replace emq := Lib.hid emq
      replace ecq := Lib.hid ecq
      replace HB := Lib.hid HB
      replace HS := Lib.hid HS
      replace enn := Lib.hid enn
      clear hTop2
      have hd : decide ((0 : Int) < (nn : Int)) = true := decide_eq_true (by omega)
      have hd' : decide (0 < nn) = true := decide_eq_true hpl
      go_wp2_with fail
      refine (HB.out w6 h6.out).mono ?_
      rintro e w7 ⟨rfl, b7⟩
      obtain ⟨gx, egx⟩ : ∃ x, w7.heap.size = x := ⟨_, rfl⟩
      obtain ⟨w8, e8⟩ : ∃ W, w7.alloc (.cells #[.int .i64 bp, .int .i64 bn, .int .i64 bi, .int .i64 bs, .int .i64 bj, .int .i64 bt] 37) = W := ⟨_, rfl⟩
      have b78 : Below w6.heap.size w6 w8 := by rw [← e8]; exact b7.alloc b7.size _
      have hgx : w8.heap[gx]? = some (.cells #[.int .i64 bp, .int .i64 bn, .int .i64 bi, .int .i64 bs, .int .i64 bj, .int .i64 bt] 37 (0, 0)) := by rw [← e8, ← egx]; exact heap_alloc_new w7 _
      have hV8 : Hid (∀ W, Below w8.heap.size w8 W → HV fQt W A6 nn LL) := Lib.hid (fun W b => hV6.out W (below_top b78 b))
      have hX8 : Hid (∀ W, Below w8.heap.size w8 W → W.heap[gx]? = some (.cells #[.int .i64 bp, .int .i64 bn, .int .i64 bi, .int .i64 bs, .int .i64 bj, .int .i64 bt] 37 (0, 0))) := Lib.hid (fun W b => (b.block gx (Array.getElem?_eq_some_iff.1 hgx).1).trans hgx)
      have h8 := Lib.hid (hV6.out _ b78)
      have B8 := Lib.hid (below_top B6.out b78)
      replace e8 := Lib.hid e8
      replace egx := Lib.hid egx
      clear b7 b78 hgx h6 hV6
      go_upto_region 6 with (fail)
      rw [e8.out, egx.out]
      clear e8 egx
      go_wp2_with fail
      refine (HS.out w8 h8.out).mono ?_
      rintro e w9 ⟨rfl, b9⟩
      have B9 := Lib.hid (below_top B8.out b9)
      have hV9 : Hid (∀ W, Below w9.heap.size w9 W → HV fQt W A6 nn LL) := Lib.hid (fun W b => hV8.out _ (below_top b9 b))
      have B99 := Lib.hid (Below.refl w9.heap.size w9)
      have hX9 : Hid (∀ W, Below w9.heap.size w9 W → W.heap[gx]? = some (.cells #[.int .i64 bp, .int .i64 bn, .int .i64 bi, .int .i64 bs, .int .i64 bj, .int .i64 bt] 37 (0, 0))) := Lib.hid (fun W b => hX8.out _ (below_top b9 b))
      clear b9 h8 hX8 hV8
      go_wp2_with fail
      go_loopw [18, 19, 20, 21] (fun qv nv fv iv wr => ∃ (k cc : Nat) (q : Int) (f : Bool), iv = .int .i64 (k : Int) ∧ qv = .int .i64 q ∧ nv = .int .i64 (cc : Int) ∧ fv = .bool f ∧ k ≤ nn ∧ cc ≤ k ∧ Hid (mostQ bp 0 (LL.take k) = q) ∧ Hid (countQ bp (LL.take k) = cc) ∧ Hid (f = decide (k ≤ i0)) ∧ Hid (Below w9.heap.size w9 wr)) (fun _ _ _ iv _ => nn - (intOf iv).toNat)
      case atStart => exact ⟨0, 0, 0, true, rfl, rfl, rfl, rfl, by omega, by omega, hm0, hc0, hf0, B99⟩
      case round =>
        clear hm0 hc0 hf0 B99
        obtain ⟨k, cc, q, f, rfl, rfl, rfl, rfl, hk, hcn, hq, hc, hf, hBi⟩ := hrel
        have X := row6 (hX9.out _ hBi.out)
        obtain ⟨z0, z1, z2, z3, z4, z5⟩ := X
        by_cases hlt : k < nn
        · have d1 : decide ((k : Int) < (nn : Int)) = true := decide_eq_true (by omega)
          have d3 : (k : Int) < (nn : Int) := by omega
          obtain ⟨y, hy⟩ := hex.out k hlt
          obtain ⟨b, off, rfl, y0, y1, y2, y3, y4, y5⟩ := (hV9.out _ hBi.out).atQ hy
          have hm := hms.out k y hy
          have hc2 := hcs.out k y hy
          have hbt := hmem.out k y hy
          rw [hq.out] at hm
          rw [hc.out] at hc2
          have hp0 : k < i0 → y.p ≠ bp := fun h => hpre.out k y h hy
          have hb0 : k = i0 → y = ⟨bp, bn, bi, bs, bj, bt⟩ := fun h => by
            have := hi0.out
            rw [← h, hy] at this
            exact Option.some.inj this
          obtain ⟨yp, yn, yi, ys, yj, yt⟩ := y
          simp only at y0 y1 y2 y3 y4 y5 hm hc2 hp0 hbt
          have db : decide (yp < bp) = false := hbt
          have hk1 : k + 1 ≤ nn := by omega
          have wcn : Hid (wrap64 ((cc : Int) + 1) = (cc : Int) + 1) := Lib.hid (IntWalk.wrap64_in _ ⟨by omega, by omega⟩)
          clear hq hc hlt hbt
          replace hy := Lib.hid hy
          by_cases hyp : yp = bp
          · have dp : (yp == bp) = true := by rw [hyp]; simp
            have hc3 : Hid (countQ bp (LL.take (k + 1)) = cc + 1) := Lib.hid (by rw [hc2, if_pos hyp])
            have hki : i0 ≤ k := by
              rcases Nat.lt_or_ge k i0 with h | h
              · exact absurd hyp (hp0 h)
              · exact h
            have hf2 : Hid (false = decide (k + 1 ≤ i0)) := Lib.hid (by rw [decide_eq_false (by omega)])
            clear hc2 hp0
            cases f with
            | true =>
              have hke : k = i0 := by have := of_decide_eq_true hf.out.symm; omega
              have hyb := hb0 hke
              injection hyb with v0 v1 v2 v3 v4 v5
              have hne : ∀ W : World, (binOp .neq 37 (.agg #[.int .i64 yp, .int .i64 yn, .int .i64 yi, .int .i64 ys, .int .i64 yj, .int .i64 yt]) (.agg #[.int .i64 bp, .int .i64 bn, .int .i64 bi, .int .i64 bs, .int .i64 bj, .int .i64 bt])).run Try.prog W = .ok (.bool false) W := fun W => by rw [neq_quote, v0, v1, v2, v3, v4, v5]; simp
              replace v0 := Lib.hid v0; replace v1 := Lib.hid v1; replace v2 := Lib.hid v2; replace v3 := Lib.hid v3; replace v4 := Lib.hid v4; replace v5 := Lib.hid v5
              clear hb0 hke
              have hyp' := Lib.hid hyp
              clear hyp
              have hyp : yp = bp := hyp'.out
              clear hyp'
              by_cases hgt : q < yn
              · have dg : decide (q < yn) = true := decide_eq_true hgt
                have hm2 : Hid (mostQ bp 0 (LL.take (k + 1)) = yn) := Lib.hid (by rw [hm, if_pos ⟨hyp, hgt⟩])
                clear hm hgt
                replace hyp := Lib.hid hyp
                go_wp2_with fail
                go_quiet (fail)
                go_wp2_with fail
                go_quiet (fail)
                go_wp2_with fail
                go_quiet (fail)
                go_wp2_with fail
                go_roundw
                case rel => exact ⟨k + 1, cc + 1, yn, false, by go_num, rfl, by go_num, rfl, hk1, Nat.succ_le_succ hcn, hm2, hc3, hf2, Lib.hid (below_drewN hBi.out _)⟩
                case measure => simp [intOf]; omega
              · have dg : decide (q < yn) = false := decide_eq_false hgt
                have hm2 : Hid (mostQ bp 0 (LL.take (k + 1)) = q) := Lib.hid (by rw [hm, if_neg (fun h => hgt h.2)])
                clear hm hgt
                replace hyp := Lib.hid hyp
                go_wp2_with fail
                go_quiet (fail)
                go_wp2_with fail
                go_quiet (fail)
                go_wp2_with fail
                go_quiet (fail)
                go_wp2_with fail
                go_roundw
                case rel => exact ⟨k + 1, cc + 1, q, false, by go_num, rfl, by go_num, rfl, hk1, Nat.succ_le_succ hcn, hm2, hc3, hf2, Lib.hid (below_drewN hBi.out _)⟩
                case measure => simp [intOf]; omega
            | false =>
              clear hb0
              by_cases hgt : q < yn
              · have dg : decide (q < yn) = true := decide_eq_true hgt
                have hm2 : Hid (mostQ bp 0 (LL.take (k + 1)) = yn) := Lib.hid (by rw [hm, if_pos ⟨hyp, hgt⟩])
                clear hm hgt
                replace hyp := Lib.hid hyp
                go_wp2_with fail
                go_quiet (fail)
                go_wp2_with fail
                go_quiet (fail)
                go_wp2_with fail
                go_quiet (fail)
                go_wp2_with fail
                go_roundw
                case rel => exact ⟨k + 1, cc + 1, yn, false, by go_num, rfl, by go_num, rfl, hk1, Nat.succ_le_succ hcn, hm2, hc3, hf2, Lib.hid (below_drewN hBi.out _)⟩
                case measure => simp [intOf]; omega
              · have dg : decide (q < yn) = false := decide_eq_false hgt
                have hm2 : Hid (mostQ bp 0 (LL.take (k + 1)) = q) := Lib.hid (by rw [hm, if_neg (fun h => hgt h.2)])
                clear hm hgt
                replace hyp := Lib.hid hyp
                go_wp2_with fail
                go_quiet (fail)
                go_wp2_with fail
                go_quiet (fail)
                go_wp2_with fail
                go_quiet (fail)
                go_wp2_with fail
                go_roundw
                case rel => exact ⟨k + 1, cc + 1, q, false, by go_num, rfl, by go_num, rfl, hk1, Nat.succ_le_succ hcn, hm2, hc3, hf2, Lib.hid (below_drewN hBi.out _)⟩
                case measure => simp [intOf]; omega
          · have dp : (yp == bp) = false := beq_eq_false_iff_ne.2 hyp
            have dp2 : decide (yp = bp) = false := decide_eq_false hyp
            have hc3 : Hid (countQ bp (LL.take (k + 1)) = cc) := Lib.hid (by rw [hc2, if_neg hyp]; rfl)
            have hm2 : Hid (mostQ bp 0 (LL.take (k + 1)) = q) := Lib.hid (by rw [hm, if_neg (fun h => hyp h.1)])
            have hki : k ≠ i0 := fun h => by
              have hb1 := hb0 h
              injection hb1 with v0
              exact hyp v0
            have hf2 : Hid (f = decide (k + 1 ≤ i0)) := Lib.hid (by
              rw [hf.out]
              by_cases h : k ≤ i0
              · rw [decide_eq_true h, decide_eq_true (by omega)]
              · rw [decide_eq_false h, decide_eq_false (by omega)])
            clear hm hc2 hyp hp0 hb0 hki
            go_wp2_with fail
            go_quiet (fail)
            go_wp2_with fail
            go_quiet (fail)
            go_wp2_with fail
            go_roundw
            case rel => exact ⟨k + 1, cc, q, f, by go_num, rfl, rfl, rfl, hk1, Nat.le_succ_of_le hcn, hm2, hc3, hf2, Lib.hid (below_drewN hBi.out _)⟩
            case measure => simp [intOf]; omega
        · obtain rfl : nn = k := by omega
          have d1 : decide ((nn : Int) < (nn : Int)) = false := by simp
          have e1 := hq.out
          have e2 := hc.out
          rw [hend.out, emq.out] at e1
          rw [hend.out, ecq.out] at e2
          subst e1
          subst e2
          have q1 : (bp == bp) = true := by simp
          have q2 : (mq == mq) = true := by simp
          have q3 : ((cq : Int) == (cq : Int)) = true := by simp
          have B10 := Lib.hid (below_top B9.out hBi.out)
          clear hq hc hlt hk hf
          go_wp2_with fail
          refine (Known_any _).mono ?_
          rintro e wk ⟨rfl, bb⟩
          have Bk := Lib.hid (below_top B10.out bb)
          clear bb
          go_wp2_with fail
          go_ret
          exact ⟨rfl, Bk.out⟩
end Go.Proofs.Ytdeofifidjbolaa
