/-
  The walk of the law ImpliedTells.
-/
import Derived.Test.YtdeofifidjbolaaIpHeld
import Derived.Test.YtdeofifidjbolaaIpKnown
import Derived.Test.YtdeofifidjbolaaIpKeep
import Derived.Test.YtdeofifidjbolaaImTops
namespace Go.Proofs.Ytdeofifidjbolaa
open Go.RowKit
set_option linter.unusedVariables false
set_option linter.unusedSimpArgs false

theorem below_top {w a b : World} (h : Below w.heap.size w a) (k : Below a.heap.size a b) : Below w.heap.size w b := h.trans (k.mono h.size)
theorem OkT.take {L : List Tp} (h : OkT L) (k : Nat) : OkT (L.take k) := fun x hx => h x (List.mem_of_mem_take hx)
set_option maxRecDepth 100000 in
set_option maxHeartbeats 8000000 in
theorem ITells_walk (p : PD) (A : Option Addr) (n cap : Nat) (L : List Tp) (inst side : Int) (w : World) (h : Hid (p.Fit w)) (hA : Hid (HV fTp w A n L)) (hok : Hid (OkT L)) (hl : n ≤ cap) (hcap : cap ≤ 9223372036854775807) (i1 : -9223372036854775808 ≤ inst) (i2 : inst ≤ 9223372036854775807) (s1 : -9223372036854775808 ≤ side) (s2 : side ≤ 9223372036854775807) :
    Calls Try.prog 4 #[p.val, .slice A n cap, .int .i64 inst, .int .i64 side] w fun e w' => e = .returned (.bool true) ∧ Below w.heap.size w w' := by
  have HS : Hid (∀ W, Below w.heap.size w W → Calls Try.prog 16 #[p.val] W fun e w' => ∃ q : PD, e = .returned q.val ∧ (∀ W, Below w.heap.size w W → q.Ok W) ∧ Below W.heap.size W w') := Lib.hid (fun W b => (Short_any p W (Lib.hid (h.out.below b))).mono fun e w' ⟨h1, h2⟩ => ⟨_, h1, fun W g => (h.out.below g).short, h2⟩)
  clear h
  obtain ⟨code, A1, n1, c1, tick, low, high, wide, rule, top, least, part, A2, n2, c2, Q, R⟩ := p
  replace HS : Hid (∀ W, Below w.heap.size w W → Calls Try.prog 16 #[.agg #[.string (str code), .slice A1 n1 c1, .int .i64 tick, .int .i64 low, .int .i64 high, .int .i64 wide, .int .i64 rule, .int .i64 top, .int .i64 least, .int .i64 part, .slice A2 n2 c2]] W fun e w' => ∃ q : PD, e = .returned q.val ∧ (∀ W, Below w.heap.size w W → q.Ok W) ∧ Below W.heap.size W w') := HS
  show Calls Try.prog 4 #[.agg #[.string (str code), .slice A1 n1 c1, .int .i64 tick, .int .i64 low, .int .i64 high, .int .i64 wide, .int .i64 rule, .int .i64 top, .int .i64 least, .int .i64 part, .slice A2 n2 c2], .slice A n cap, .int .i64 inst, .int .i64 side] w _
  obtain ⟨W0, eW0⟩ : ∃ W0, w.alloc (.cells #[.string (str code), .slice A1 n1 c1, .int .i64 tick, .int .i64 low, .int .i64 high, .int .i64 wide, .int .i64 rule, .int .i64 top, .int .i64 least, .int .i64 part, .slice A2 n2 c2] 25) = W0 := ⟨_, rfl⟩
  obtain ⟨pb, epb⟩ : ∃ pb, w.heap.size = pb := ⟨_, rfl⟩
  have hblk0 : Hid (W0.heap[pb]? = some (.cells #[.string (str code), .slice A1 n1 c1, .int .i64 tick, .int .i64 low, .int .i64 high, .int .i64 wide, .int .i64 rule, .int .i64 top, .int .i64 least, .int .i64 part, .slice A2 n2 c2] 25 (0, 0))) := Lib.hid (by rw [← eW0, ← epb]; exact heap_alloc_new w _)
  have hB0 : Hid (Below w.heap.size w W0) := Lib.hid (by rw [← eW0]; exact (Below.refl _ w).alloc (Nat.le_refl _) _)
  replace eW0 := Lib.hid eW0
  replace epb := Lib.hid epb
  go_enter Try.func4, Try.ntmps4
  obtain ⟨k0, k1, k2, k3, k4, k5, k6, k7, k8, k9, k10⟩ := row11 hblk0.out
  have hpl : Hid (w.heap.size ≤ pb) := Lib.hid (by rw [epb.out]; exact Nat.le_refl _)
  go_upto_region 1 with (fail)
  rw [eW0.out, epb.out]
  clear eW0
  go_wp2_with fail
  refine (HS.out W0 hB0.out).mono ?_
  clear HS
  rintro e w1 ⟨x, rfl, hOx, b1⟩
  have hB1 := below_top hB0.out b1
  have hblk1 := pd_blk' hblk0.out b1
  clear k0 k1 k2 k3 k4 k5 k6 k7 k8 k9 k10 hblk0 hB0 b1
  obtain ⟨codes, A1s, n1s, c1s, ticks, lows, highs, wides, rules, tops, leasts, parts, A2s, n2s, c2s, Qs, Rs⟩ := x
  rw [show PD.val ⟨codes, A1s, n1s, c1s, ticks, lows, highs, wides, rules, tops, leasts, parts, A2s, n2s, c2s, Qs, Rs⟩ = .agg #[.string (str codes), .slice A1s n1s c1s, .int .i64 ticks, .int .i64 lows, .int .i64 highs, .int .i64 wides, .int .i64 rules, .int .i64 tops, .int .i64 leasts, .int .i64 parts, .slice A2s n2s c2s] from rfl]
  have hq := Lib.hid hblk1
  have one := Lib.hid (show (#[.string (str codes), .slice A1s n1s c1s, .int .i64 ticks, .int .i64 lows, .int .i64 highs, .int .i64 wides, .int .i64 rules, .int .i64 tops, .int .i64 leasts, .int .i64 parts, .slice A2s n2s c2s] : Array Value).all (·.oneCell') = true from by simp [Value.oneCell'])
  obtain ⟨k0, k1, k2, k3, k4, k5, k6, k7, k8, k9, k10⟩ := row11 (setRow_heap w1 pb _ #[.string (str codes), .slice A1s n1s c1s, .int .i64 ticks, .int .i64 lows, .int .i64 highs, .int .i64 wides, .int .i64 rules, .int .i64 tops, .int .i64 leasts, .int .i64 parts, .slice A2s n2s c2s] 25 _ hq.out)
  obtain ⟨W2, eW2⟩ : ∃ W, w1.setRow pb #[.string (str codes), .slice A1s n1s c1s, .int .i64 ticks, .int .i64 lows, .int .i64 highs, .int .i64 wides, .int .i64 rules, .int .i64 tops, .int .i64 leasts, .int .i64 parts, .slice A2s n2s c2s] = W := ⟨_, rfl⟩
  have H2 := Lib.hid (show W2.heap[pb]? = some (.cells #[.string (str codes), .slice A1s n1s c1s, .int .i64 ticks, .int .i64 lows, .int .i64 highs, .int .i64 wides, .int .i64 rules, .int .i64 tops, .int .i64 leasts, .int .i64 parts, .slice A2s n2s c2s] 25 (0, 0)) by rw [← eW2]; exact setRow_heap w1 pb _ #[.string (str codes), .slice A1s n1s c1s, .int .i64 ticks, .int .i64 lows, .int .i64 highs, .int .i64 wides, .int .i64 rules, .int .i64 tops, .int .i64 leasts, .int .i64 parts, .slice A2s n2s c2s] 25 _ hq.out)
  have hB2 := Lib.hid (show Below w.heap.size w W2 by rw [← eW2]; exact below_setRow hB1 hpl.out #[.string (str codes), .slice A1s n1s c1s, .int .i64 ticks, .int .i64 lows, .int .i64 highs, .int .i64 wides, .int .i64 rules, .int .i64 tops, .int .i64 leasts, .int .i64 parts, .slice A2s n2s c2s])
  replace hOx := Lib.hid hOx
  replace eW2 := Lib.hid eW2
  clear hblk1 hB1
  have HK : Hid (Calls Try.prog 17 #[.agg #[.string (str codes), .slice A1s n1s c1s, .int .i64 ticks, .int .i64 lows, .int .i64 highs, .int .i64 wides, .int .i64 rules, .int .i64 tops, .int .i64 leasts, .int .i64 parts, .slice A2s n2s c2s]] W2 fun e w' => ∃ P : PD, e = .returned P.val ∧ P.Keep ∧ P.Ok w' ∧ Below W2.heap.size W2 w') := Lib.hid (KProd14 ⟨codes, A1s, n1s, c1s, ticks, lows, highs, wides, rules, tops, leasts, parts, A2s, n2s, c2s, Qs, Rs⟩ W2 (Lib.hid (hOx.out W2 hB2.out).fit))
  go_wp2_with (refine wpList_store_row rfl 25 (.tmp 4) (.tmp 13) rfl pb #[.string (str codes), .slice A1s n1s c1s, .int .i64 ticks, .int .i64 lows, .int .i64 highs, .int .i64 wides, .int .i64 rules, .int .i64 tops, .int .i64 leasts, .int .i64 parts, .slice A2s n2s c2s] rfl rfl 25 #[.string (str code), .slice A1 n1 c1, .int .i64 tick, .int .i64 low, .int .i64 high, .int .i64 wide, .int .i64 rule, .int .i64 top, .int .i64 least, .int .i64 part, .slice A2 n2 c2] hq.out rfl rfl one.out ?_)
  rw [eW2.out]
  clear eW2 hq one
  go_wp2_with fail
  refine HK.out.mono ?_
  clear HK
  rintro e w3 ⟨P, rfl, pk, pok, b3⟩
  have hB3 := Lib.hid (below_top hB2.out b3)
  have H3 := Lib.hid (pd_blk' H2.out b3)
  clear k0 k1 k2 k3 k4 k5 k6 k7 k8 k9 k10 H2 hB2 b3
  obtain ⟨codem, A1m, n1m, c1m, tickm, lowm, highm, widem, rulem, topm, leastm, partm, A2m, n2m, c2m, Qm, Rm⟩ := P
  rw [show PD.val ⟨codem, A1m, n1m, c1m, tickm, lowm, highm, widem, rulem, topm, leastm, partm, A2m, n2m, c2m, Qm, Rm⟩ = .agg #[.string (str codem), .slice A1m n1m c1m, .int .i64 tickm, .int .i64 lowm, .int .i64 highm, .int .i64 widem, .int .i64 rulem, .int .i64 topm, .int .i64 leastm, .int .i64 partm, .slice A2m n2m c2m] from rfl]
  obtain ⟨mb, emb⟩ : ∃ x, w3.heap.size = x := ⟨_, rfl⟩
  obtain ⟨W4, eW4⟩ : ∃ W, w3.alloc (.cells #[.string (str codem), .slice A1m n1m c1m, .int .i64 tickm, .int .i64 lowm, .int .i64 highm, .int .i64 widem, .int .i64 rulem, .int .i64 topm, .int .i64 leastm, .int .i64 partm, .slice A2m n2m c2m] 25) = W := ⟨_, rfl⟩
  have b34 : Below w3.heap.size w3 W4 := by rw [← eW4]; exact (Below.refl _ w3).alloc (Nat.le_refl _) _
  have hmb : W4.heap[mb]? = some (.cells #[.string (str codem), .slice A1m n1m c1m, .int .i64 tickm, .int .i64 lowm, .int .i64 highm, .int .i64 widem, .int .i64 rulem, .int .i64 topm, .int .i64 leastm, .int .i64 partm, .slice A2m n2m c2m] 25 (0, 0)) := by rw [← eW4, ← emb]; exact heap_alloc_new w3 _
  have hpb4 := pd_blk' H3.out b34
  have hm4 : Hid (∀ W, Below W4.heap.size W4 W → W.heap[mb]? = some (.cells #[.string (str codem), .slice A1m n1m c1m, .int .i64 tickm, .int .i64 lowm, .int .i64 highm, .int .i64 widem, .int .i64 rulem, .int .i64 topm, .int .i64 leastm, .int .i64 partm, .slice A2m n2m c2m] 25 (0, 0))) := Lib.hid (fun W b => pd_blk' hmb b)
  have hs4 : Hid (∀ W, Below W4.heap.size W4 W → W.heap[pb]? = some (.cells #[.string (str codes), .slice A1s n1s c1s, .int .i64 ticks, .int .i64 lows, .int .i64 highs, .int .i64 wides, .int .i64 rules, .int .i64 tops, .int .i64 leasts, .int .i64 parts, .slice A2s n2s c2s] 25 (0, 0))) := Lib.hid (fun W b => pd_blk' hpb4 b)
  have hB4 := Lib.hid (below_top hB3.out b34)
  have hOk4 : Hid (∀ W, Below W4.heap.size W4 W → PD.Ok ⟨codem, A1m, n1m, c1m, tickm, lowm, highm, widem, rulem, topm, leastm, partm, A2m, n2m, c2m, Qm, Rm⟩ W) := Lib.hid (fun W b => (pok.below b34).below b)
  have hk := Lib.hid pk
  replace eW4 := Lib.hid eW4
  replace emb := Lib.hid emb
  clear pk pok b34 hmb hpb4 H3 hB3
  have hln := hA.out.1
  by_cases h30 : 30 < n
  · have d30 : decide (30 < n) = true := decide_eq_true h30
    have d30' : decide ((30 : Int) < (n : Int)) = true := decide_eq_true (by omega)
    have z30 : (30 : Int) < (n : Int) := by omega
    have hA' := Lib.hid (hA.out.take (k := 30) (by omega))
    have hokA := Lib.hid (hok.out.take 30)
    clear hA hok
    go_upto_region 3 with (fail)
    rw [eW4.out, emb.out]
    clear eW4 emb
    have hlx : ((L.take 30)).length = 30 := hA'.out.1
    have HT : Hid (Calls Try.prog 18 #[.agg #[.string (str codem), .slice A1m n1m c1m, .int .i64 tickm, .int .i64 lowm, .int .i64 highm, .int .i64 widem, .int .i64 rulem, .int .i64 topm, .int .i64 leastm, .int .i64 partm, .slice A2m n2m c2m], .slice A 30 cap] W4 (GaveT 31 W4 (topsL tickm (cntL ⟨codem, A1m, n1m, c1m, tickm, lowm, highm, widem, rulem, topm, leastm, partm, A2m, n2m, c2m, Qm, Rm⟩) (L.take 30)))) := Lib.hid (Tops_any ⟨codem, A1m, n1m, c1m, tickm, lowm, highm, widem, rulem, topm, leastm, partm, A2m, n2m, c2m, Qm, Rm⟩ A 30 cap (L.take 30) W4 (Lib.hid (hOk4.out W4 (Below.refl _ _))) hk.out.t1 (by have := hk.out.t2; omega) (Lib.hid (hA'.out.below hB4.out)) hokA (by omega))
    have ht1 := topsL_len tickm (cntL ⟨codem, A1m, n1m, c1m, tickm, lowm, highm, widem, rulem, topm, leastm, partm, A2m, n2m, c2m, Qm, Rm⟩) ((L.take 30))
    have ht2 : OkT (topsL tickm (cntL ⟨codem, A1m, n1m, c1m, tickm, lowm, highm, widem, rulem, topm, leastm, partm, A2m, n2m, c2m, Qm, Rm⟩) ((L.take 30))) := topsL_ok hk.out.t1 (by have := hk.out.t2; omega)
    obtain ⟨c0, c1', c2', c3', c4'⟩ := hk.out.cnt
    obtain ⟨cn, hcn⟩ : ∃ c, cntL ⟨codem, A1m, n1m, c1m, tickm, lowm, highm, widem, rulem, topm, leastm, partm, A2m, n2m, c2m, Qm, Rm⟩ = c := ⟨_, rfl⟩
    obtain ⟨TL, hTL⟩ : ∃ c, topsL tickm (cntL ⟨codem, A1m, n1m, c1m, tickm, lowm, highm, widem, rulem, topm, leastm, partm, A2m, n2m, c2m, Qm, Rm⟩) ((L.take 30)) = c := ⟨_, rfl⟩
    rw [hTL] at HT ht1 ht2
    rw [hcn] at ht1 c3' c4'
    replace ht2 := Lib.hid ht2
    clear hTL hcn c0 c1' c2' hk
    have H2 : Hid (∀ W A5 n5 c5 i s, Below W4.heap.size W4 W → HV fTp W A5 n5 (L.take 30) → n5 ≤ 1000 → I64 i → I64 s → Calls Try.prog 11 #[.agg #[.string (str codes), .slice A1s n1s c1s, .int .i64 ticks, .int .i64 lows, .int .i64 highs, .int .i64 wides, .int .i64 rules, .int .i64 tops, .int .i64 leasts, .int .i64 parts, .slice A2s n2s c2s], .slice A5 n5 c5, .int .i64 i, .int .i64 s] W fun e w' => e = .returned (.bool true) ∧ Below W.heap.size W w') := Lib.hid (fun W A5 n5 c5 i s b hv h5 hi hs => Held_any ⟨codes, A1s, n1s, c1s, ticks, lows, highs, wides, rules, tops, leasts, parts, A2s, n2s, c2s, Qs, Rs⟩ A5 n5 c5 (L.take 30) i s W (Lib.hid (hOx.out W (below_up hB4.out b))) (Lib.hid hv) hokA hi hs h5)
    have H3 : Hid (∀ W A5 n5 c5 i s, Below W4.heap.size W4 W → HV fTp W A5 n5 (L.take 30) → n5 ≤ 1000 → I64 i → I64 s → Calls Try.prog 11 #[.agg #[.string (str codem), .slice A1m n1m c1m, .int .i64 tickm, .int .i64 lowm, .int .i64 highm, .int .i64 widem, .int .i64 rulem, .int .i64 topm, .int .i64 leastm, .int .i64 partm, .slice A2m n2m c2m], .slice A5 n5 c5, .int .i64 i, .int .i64 s] W fun e w' => e = .returned (.bool true) ∧ Below W.heap.size W w') := Lib.hid (fun W A5 n5 c5 i s b hv h5 hi hs => Held_any ⟨codem, A1m, n1m, c1m, tickm, lowm, highm, widem, rulem, topm, leastm, partm, A2m, n2m, c2m, Qm, Rm⟩ A5 n5 c5 (L.take 30) i s W (Lib.hid (hOk4.out W b)) (Lib.hid hv) hokA hi hs h5)
    have H1 : Hid (∀ W A5 n5 c5 i s, Below W4.heap.size W4 W → HV fTp W A5 n5 TL → n5 ≤ 1000 → I64 i → I64 s → Calls Try.prog 11 #[.agg #[.string (str codem), .slice A1m n1m c1m, .int .i64 tickm, .int .i64 lowm, .int .i64 highm, .int .i64 widem, .int .i64 rulem, .int .i64 topm, .int .i64 leastm, .int .i64 partm, .slice A2m n2m c2m], .slice A5 n5 c5, .int .i64 i, .int .i64 s] W fun e w' => e = .returned (.bool true) ∧ Below W.heap.size W w') := Lib.hid (fun W A5 n5 c5 i s b hv h5 hi hs => Held_any ⟨codem, A1m, n1m, c1m, tickm, lowm, highm, widem, rulem, topm, leastm, partm, A2m, n2m, c2m, Qm, Rm⟩ A5 n5 c5 TL i s W (Lib.hid (hOk4.out W b)) (Lib.hid hv) ht2 hi hs h5)
    have hW4 := Lib.hid (hA'.out.below hB4.out)
    clear hOk4 hOx hA'
    obtain ⟨k0, k1, k2, k3, k4, k5, k6, k7, k8, k9, k10⟩ := row11 (hm4.out W4 (Below.refl _ _))
    go_upto_region 5 with (fail)
    go_wp2_with fail
    refine HT.out.mono ?_
    rintro e w5 ⟨v5, rfl, ro, b5⟩
    obtain ⟨A5, c5, rfl, hv5, -⟩ := ro.slice
    rw [ht1] at hv5 ⊢
    have B45 := Lib.hid b5
    have hW5 := Lib.hid (hW4.out.below b5)
    have hV5 := Lib.hid hv5
    clear k0 k1 k2 k3 k4 k5 k6 k7 k8 k9 k10 HT ro b5 hv5 hW4
    have HW := Within_any inst (cn - 1) w5 (by omega) i1 i2
    rw [show ((cn - 1 : Nat) : Int) = (cn : Int) - 1 by omega] at HW
    have hwl := withinN_le inst (cn - 1)
    obtain ⟨kk, ekk⟩ : ∃ k, withinN inst (cn - 1) = k := ⟨_, rfl⟩
    rw [ekk] at HW hwl
    replace HW := Lib.hid HW
    clear ekk
    go_wp2_with fail
    refine HW.out.mono ?_
    rintro e w5 ⟨rfl, rfl⟩
    clear HW
    obtain ⟨k0, k1, k2, k3, k4, k5, k6, k7, k8, k9, k10⟩ := row11 (hm4.out w5 B45.out)
    have HC := Lib.hid (H1.out w5 A5 cn c5 (kk : Int) 1 B45.out hV5.out (by omega) ⟨by omega, by omega⟩ ⟨by omega, by omega⟩)
    go_wp2_with fail
    refine HC.out.mono ?_
    rintro e wh0 ⟨rfl, bb⟩
    have Bwh0 := Lib.hid (below_up B45.out bb)
    have Vwh0 := Lib.hid (hV5.out.below bb)
    have Xwh0 := Lib.hid (hW5.out.below bb)
    clear k0 k1 k2 k3 k4 k5 k6 k7 k8 k9 k10 HC bb
    obtain ⟨k0, k1, k2, k3, k4, k5, k6, k7, k8, k9, k10⟩ := row11 (hm4.out wh0 Bwh0.out)
    have HC := Lib.hid (H1.out wh0 A5 cn c5 (kk : Int) 2 Bwh0.out Vwh0.out (by omega) ⟨by omega, by omega⟩ ⟨by omega, by omega⟩)
    go_wp2_with fail
    refine HC.out.mono ?_
    rintro e wh1 ⟨rfl, bb⟩
    have Bwh1 := Lib.hid (below_up Bwh0.out bb)
    have Vwh1 := Lib.hid (Vwh0.out.below bb)
    have Xwh1 := Lib.hid (Xwh0.out.below bb)
    clear k0 k1 k2 k3 k4 k5 k6 k7 k8 k9 k10 HC bb
    obtain ⟨k0, k1, k2, k3, k4, k5, k6, k7, k8, k9, k10⟩ := row11 (hm4.out wh1 Bwh1.out)
    have HC := Lib.hid (H1.out wh1 A5 cn c5 inst side Bwh1.out Vwh1.out (by omega) ⟨by omega, by omega⟩ ⟨by omega, by omega⟩)
    go_wp2_with fail
    refine HC.out.mono ?_
    rintro e wh2 ⟨rfl, bb⟩
    have Bwh2 := Lib.hid (below_up Bwh1.out bb)
    have Vwh2 := Lib.hid (Vwh1.out.below bb)
    have Xwh2 := Lib.hid (Xwh1.out.below bb)
    clear k0 k1 k2 k3 k4 k5 k6 k7 k8 k9 k10 HC bb
    obtain ⟨k0, k1, k2, k3, k4, k5, k6, k7, k8, k9, k10⟩ := row11 (hs4.out wh2 Bwh2.out)
    have HC := Lib.hid (H2.out wh2 A 30 cap inst side Bwh2.out Xwh2.out (by omega) ⟨by omega, by omega⟩ ⟨by omega, by omega⟩)
    go_wp2_with fail
    refine HC.out.mono ?_
    rintro e wh3 ⟨rfl, bb⟩
    have Bwh3 := Lib.hid (below_up Bwh2.out bb)
    have Vwh3 := Lib.hid (Vwh2.out.below bb)
    have Xwh3 := Lib.hid (Xwh2.out.below bb)
    clear k0 k1 k2 k3 k4 k5 k6 k7 k8 k9 k10 HC bb
    obtain ⟨k0, k1, k2, k3, k4, k5, k6, k7, k8, k9, k10⟩ := row11 (hm4.out wh3 Bwh3.out)
    have HC := Lib.hid (H3.out wh3 A 30 cap (kk : Int) side Bwh3.out Xwh3.out (by omega) ⟨by omega, by omega⟩ ⟨by omega, by omega⟩)
    go_wp2_with fail
    refine HC.out.mono ?_
    rintro e wh4 ⟨rfl, bb⟩
    have Bwh4 := Lib.hid (below_up Bwh3.out bb)
    have Vwh4 := Lib.hid (Vwh3.out.below bb)
    have Xwh4 := Lib.hid (Xwh3.out.below bb)
    clear k0 k1 k2 k3 k4 k5 k6 k7 k8 k9 k10 HC bb
    have HC := Lib.hid (Known_any wh4)
    go_wp2_with fail
    refine HC.out.mono ?_
    rintro e w9 ⟨rfl, bb⟩
    have B9 := Lib.hid (below_up Bwh4.out bb)
    clear HC bb
    go_wp2_with fail
    go_ret
    exact ⟨rfl, below_up hB4.out B9.out⟩
  · have d30 : decide (30 < n) = false := decide_eq_false h30
    have d30' : decide ((30 : Int) < (n : Int)) = false := decide_eq_false (by omega)
    have hA' := hA
    have hokA := hok
    clear hA hok
    go_upto_region 3 with (fail)
    rw [eW4.out, emb.out]
    clear eW4 emb
    have hlx : (L).length = n := hA'.out.1
    have HT : Hid (Calls Try.prog 18 #[.agg #[.string (str codem), .slice A1m n1m c1m, .int .i64 tickm, .int .i64 lowm, .int .i64 highm, .int .i64 widem, .int .i64 rulem, .int .i64 topm, .int .i64 leastm, .int .i64 partm, .slice A2m n2m c2m], .slice A n cap] W4 (GaveT 31 W4 (topsL tickm (cntL ⟨codem, A1m, n1m, c1m, tickm, lowm, highm, widem, rulem, topm, leastm, partm, A2m, n2m, c2m, Qm, Rm⟩) L))) := Lib.hid (Tops_any ⟨codem, A1m, n1m, c1m, tickm, lowm, highm, widem, rulem, topm, leastm, partm, A2m, n2m, c2m, Qm, Rm⟩ A n cap L W4 (Lib.hid (hOk4.out W4 (Below.refl _ _))) hk.out.t1 (by have := hk.out.t2; omega) (Lib.hid (hA'.out.below hB4.out)) hokA (by omega))
    have ht1 := topsL_len tickm (cntL ⟨codem, A1m, n1m, c1m, tickm, lowm, highm, widem, rulem, topm, leastm, partm, A2m, n2m, c2m, Qm, Rm⟩) (L)
    have ht2 : OkT (topsL tickm (cntL ⟨codem, A1m, n1m, c1m, tickm, lowm, highm, widem, rulem, topm, leastm, partm, A2m, n2m, c2m, Qm, Rm⟩) (L)) := topsL_ok hk.out.t1 (by have := hk.out.t2; omega)
    obtain ⟨c0, c1', c2', c3', c4'⟩ := hk.out.cnt
    obtain ⟨cn, hcn⟩ : ∃ c, cntL ⟨codem, A1m, n1m, c1m, tickm, lowm, highm, widem, rulem, topm, leastm, partm, A2m, n2m, c2m, Qm, Rm⟩ = c := ⟨_, rfl⟩
    obtain ⟨TL, hTL⟩ : ∃ c, topsL tickm (cntL ⟨codem, A1m, n1m, c1m, tickm, lowm, highm, widem, rulem, topm, leastm, partm, A2m, n2m, c2m, Qm, Rm⟩) (L) = c := ⟨_, rfl⟩
    rw [hTL] at HT ht1 ht2
    rw [hcn] at ht1 c3' c4'
    replace ht2 := Lib.hid ht2
    clear hTL hcn c0 c1' c2' hk
    have H2 : Hid (∀ W A5 n5 c5 i s, Below W4.heap.size W4 W → HV fTp W A5 n5 L → n5 ≤ 1000 → I64 i → I64 s → Calls Try.prog 11 #[.agg #[.string (str codes), .slice A1s n1s c1s, .int .i64 ticks, .int .i64 lows, .int .i64 highs, .int .i64 wides, .int .i64 rules, .int .i64 tops, .int .i64 leasts, .int .i64 parts, .slice A2s n2s c2s], .slice A5 n5 c5, .int .i64 i, .int .i64 s] W fun e w' => e = .returned (.bool true) ∧ Below W.heap.size W w') := Lib.hid (fun W A5 n5 c5 i s b hv h5 hi hs => Held_any ⟨codes, A1s, n1s, c1s, ticks, lows, highs, wides, rules, tops, leasts, parts, A2s, n2s, c2s, Qs, Rs⟩ A5 n5 c5 L i s W (Lib.hid (hOx.out W (below_up hB4.out b))) (Lib.hid hv) hokA hi hs h5)
    have H3 : Hid (∀ W A5 n5 c5 i s, Below W4.heap.size W4 W → HV fTp W A5 n5 L → n5 ≤ 1000 → I64 i → I64 s → Calls Try.prog 11 #[.agg #[.string (str codem), .slice A1m n1m c1m, .int .i64 tickm, .int .i64 lowm, .int .i64 highm, .int .i64 widem, .int .i64 rulem, .int .i64 topm, .int .i64 leastm, .int .i64 partm, .slice A2m n2m c2m], .slice A5 n5 c5, .int .i64 i, .int .i64 s] W fun e w' => e = .returned (.bool true) ∧ Below W.heap.size W w') := Lib.hid (fun W A5 n5 c5 i s b hv h5 hi hs => Held_any ⟨codem, A1m, n1m, c1m, tickm, lowm, highm, widem, rulem, topm, leastm, partm, A2m, n2m, c2m, Qm, Rm⟩ A5 n5 c5 L i s W (Lib.hid (hOk4.out W b)) (Lib.hid hv) hokA hi hs h5)
    have H1 : Hid (∀ W A5 n5 c5 i s, Below W4.heap.size W4 W → HV fTp W A5 n5 TL → n5 ≤ 1000 → I64 i → I64 s → Calls Try.prog 11 #[.agg #[.string (str codem), .slice A1m n1m c1m, .int .i64 tickm, .int .i64 lowm, .int .i64 highm, .int .i64 widem, .int .i64 rulem, .int .i64 topm, .int .i64 leastm, .int .i64 partm, .slice A2m n2m c2m], .slice A5 n5 c5, .int .i64 i, .int .i64 s] W fun e w' => e = .returned (.bool true) ∧ Below W.heap.size W w') := Lib.hid (fun W A5 n5 c5 i s b hv h5 hi hs => Held_any ⟨codem, A1m, n1m, c1m, tickm, lowm, highm, widem, rulem, topm, leastm, partm, A2m, n2m, c2m, Qm, Rm⟩ A5 n5 c5 TL i s W (Lib.hid (hOk4.out W b)) (Lib.hid hv) ht2 hi hs h5)
    have hW4 := Lib.hid (hA'.out.below hB4.out)
    clear hOk4 hOx hA'
    obtain ⟨k0, k1, k2, k3, k4, k5, k6, k7, k8, k9, k10⟩ := row11 (hm4.out W4 (Below.refl _ _))
    go_upto_region 5 with (fail)
    go_wp2_with fail
    refine HT.out.mono ?_
    rintro e w5 ⟨v5, rfl, ro, b5⟩
    obtain ⟨A5, c5, rfl, hv5, -⟩ := ro.slice
    rw [ht1] at hv5 ⊢
    have B45 := Lib.hid b5
    have hW5 := Lib.hid (hW4.out.below b5)
    have hV5 := Lib.hid hv5
    clear k0 k1 k2 k3 k4 k5 k6 k7 k8 k9 k10 HT ro b5 hv5 hW4
    have HW := Within_any inst (cn - 1) w5 (by omega) i1 i2
    rw [show ((cn - 1 : Nat) : Int) = (cn : Int) - 1 by omega] at HW
    have hwl := withinN_le inst (cn - 1)
    obtain ⟨kk, ekk⟩ : ∃ k, withinN inst (cn - 1) = k := ⟨_, rfl⟩
    rw [ekk] at HW hwl
    replace HW := Lib.hid HW
    clear ekk
    go_wp2_with fail
    refine HW.out.mono ?_
    rintro e w5 ⟨rfl, rfl⟩
    clear HW
    obtain ⟨k0, k1, k2, k3, k4, k5, k6, k7, k8, k9, k10⟩ := row11 (hm4.out w5 B45.out)
    have HC := Lib.hid (H1.out w5 A5 cn c5 (kk : Int) 1 B45.out hV5.out (by omega) ⟨by omega, by omega⟩ ⟨by omega, by omega⟩)
    go_wp2_with fail
    refine HC.out.mono ?_
    rintro e wh0 ⟨rfl, bb⟩
    have Bwh0 := Lib.hid (below_up B45.out bb)
    have Vwh0 := Lib.hid (hV5.out.below bb)
    have Xwh0 := Lib.hid (hW5.out.below bb)
    clear k0 k1 k2 k3 k4 k5 k6 k7 k8 k9 k10 HC bb
    obtain ⟨k0, k1, k2, k3, k4, k5, k6, k7, k8, k9, k10⟩ := row11 (hm4.out wh0 Bwh0.out)
    have HC := Lib.hid (H1.out wh0 A5 cn c5 (kk : Int) 2 Bwh0.out Vwh0.out (by omega) ⟨by omega, by omega⟩ ⟨by omega, by omega⟩)
    go_wp2_with fail
    refine HC.out.mono ?_
    rintro e wh1 ⟨rfl, bb⟩
    have Bwh1 := Lib.hid (below_up Bwh0.out bb)
    have Vwh1 := Lib.hid (Vwh0.out.below bb)
    have Xwh1 := Lib.hid (Xwh0.out.below bb)
    clear k0 k1 k2 k3 k4 k5 k6 k7 k8 k9 k10 HC bb
    obtain ⟨k0, k1, k2, k3, k4, k5, k6, k7, k8, k9, k10⟩ := row11 (hm4.out wh1 Bwh1.out)
    have HC := Lib.hid (H1.out wh1 A5 cn c5 inst side Bwh1.out Vwh1.out (by omega) ⟨by omega, by omega⟩ ⟨by omega, by omega⟩)
    go_wp2_with fail
    refine HC.out.mono ?_
    rintro e wh2 ⟨rfl, bb⟩
    have Bwh2 := Lib.hid (below_up Bwh1.out bb)
    have Vwh2 := Lib.hid (Vwh1.out.below bb)
    have Xwh2 := Lib.hid (Xwh1.out.below bb)
    clear k0 k1 k2 k3 k4 k5 k6 k7 k8 k9 k10 HC bb
    obtain ⟨k0, k1, k2, k3, k4, k5, k6, k7, k8, k9, k10⟩ := row11 (hs4.out wh2 Bwh2.out)
    have HC := Lib.hid (H2.out wh2 A n cap inst side Bwh2.out Xwh2.out (by omega) ⟨by omega, by omega⟩ ⟨by omega, by omega⟩)
    go_wp2_with fail
    refine HC.out.mono ?_
    rintro e wh3 ⟨rfl, bb⟩
    have Bwh3 := Lib.hid (below_up Bwh2.out bb)
    have Vwh3 := Lib.hid (Vwh2.out.below bb)
    have Xwh3 := Lib.hid (Xwh2.out.below bb)
    clear k0 k1 k2 k3 k4 k5 k6 k7 k8 k9 k10 HC bb
    obtain ⟨k0, k1, k2, k3, k4, k5, k6, k7, k8, k9, k10⟩ := row11 (hm4.out wh3 Bwh3.out)
    have HC := Lib.hid (H3.out wh3 A n cap (kk : Int) side Bwh3.out Xwh3.out (by omega) ⟨by omega, by omega⟩ ⟨by omega, by omega⟩)
    go_wp2_with fail
    refine HC.out.mono ?_
    rintro e wh4 ⟨rfl, bb⟩
    have Bwh4 := Lib.hid (below_up Bwh3.out bb)
    have Vwh4 := Lib.hid (Vwh3.out.below bb)
    have Xwh4 := Lib.hid (Xwh3.out.below bb)
    clear k0 k1 k2 k3 k4 k5 k6 k7 k8 k9 k10 HC bb
    have HC := Lib.hid (Known_any wh4)
    go_wp2_with fail
    refine HC.out.mono ?_
    rintro e w9 ⟨rfl, bb⟩
    have B9 := Lib.hid (below_up Bwh4.out bb)
    clear HC bb
    go_wp2_with fail
    go_ret
    exact ⟨rfl, below_up hB4.out B9.out⟩
end Go.Proofs.Ytdeofifidjbolaa
