/-
  The walk of the law ImpliedRules.
-/
import Derived.Test.YtdeofifidjbolaaIpTells
import Derived.Test.YtdeofifidjbolaaIpMirP
import Derived.Test.YtdeofifidjbolaaIpRulF
import Derived.Test.YtdeofifidjbolaaIpRulL
import Derived.Deep.QuietTactic
import Derived.BigQuiet
namespace Go.Proofs.Ytdeofifidjbolaa
open Go.RowKit
set_option linter.unusedVariables false
set_option linter.unusedSimpArgs false

theorem topAt_get {T : List Tp} {j : Nat} {x : Tp} (h : T[j]? = some x) : topAt T (j : Int) = x := by
  unfold topAt
  rw [Int.toNat_natCast, List.getD_eq_getElem?_getD, h]; rfl
set_option maxRecDepth 100000 in
set_option maxHeartbeats 8000000 in
theorem IRules_walk (p : PD) (A : Option Addr) (n cap : Nat) (L : List Tp) (inst : Int) (w : World) (h : Hid (p.Fit w)) (hA : Hid (HV fTp w A n L)) (hok : Hid (OkT L)) (hl : n ≤ cap) (hcap : cap ≤ 9223372036854775807) (i1 : -9223372036854775808 ≤ inst) (i2 : inst ≤ 9223372036854775807) :
    Calls Try.prog 5 #[p.val, .slice A n cap, .int .i64 inst] w fun e w' => e = .returned (.bool true) ∧ Below w.heap.size w w' := by
  have HK : Hid (∀ W, Below w.heap.size w W → Calls Try.prog 17 #[p.val] W fun e w' => ∃ P : PD, e = .returned P.val ∧ P.Keep ∧ P.Ok w' ∧ Below W.heap.size W w') := Lib.hid (fun W b => KProd14 p W (Lib.hid (h.out.below b)))
  clear h
  obtain ⟨code, A1, n1, c1, tick, low, high, wide, rule, top, least, part, A2, n2, c2, Q, R⟩ := p
  replace HK : Hid (∀ W, Below w.heap.size w W → Calls Try.prog 17 #[.agg #[.string (str code), .slice A1 n1 c1, .int .i64 tick, .int .i64 low, .int .i64 high, .int .i64 wide, .int .i64 rule, .int .i64 top, .int .i64 least, .int .i64 part, .slice A2 n2 c2]] W fun e w' => ∃ P : PD, e = .returned P.val ∧ P.Keep ∧ P.Ok w' ∧ Below W.heap.size W w') := HK
  show Calls Try.prog 5 #[.agg #[.string (str code), .slice A1 n1 c1, .int .i64 tick, .int .i64 low, .int .i64 high, .int .i64 wide, .int .i64 rule, .int .i64 top, .int .i64 least, .int .i64 part, .slice A2 n2 c2], .slice A n cap, .int .i64 inst] w _
  obtain ⟨W0, eW0⟩ : ∃ W0, w.alloc (.cells #[.string (str code), .slice A1 n1 c1, .int .i64 tick, .int .i64 low, .int .i64 high, .int .i64 wide, .int .i64 rule, .int .i64 top, .int .i64 least, .int .i64 part, .slice A2 n2 c2] 25) = W0 := ⟨_, rfl⟩
  obtain ⟨pb, epb⟩ : ∃ pb, w.heap.size = pb := ⟨_, rfl⟩
  have hblk0 : Hid (W0.heap[pb]? = some (.cells #[.string (str code), .slice A1 n1 c1, .int .i64 tick, .int .i64 low, .int .i64 high, .int .i64 wide, .int .i64 rule, .int .i64 top, .int .i64 least, .int .i64 part, .slice A2 n2 c2] 25 (0, 0))) := Lib.hid (by rw [← eW0, ← epb]; exact heap_alloc_new w _)
  have hB0 : Hid (Below w.heap.size w W0) := Lib.hid (by rw [← eW0]; exact (Below.refl _ w).alloc (Nat.le_refl _) _)
  replace eW0 := Lib.hid eW0
  replace epb := Lib.hid epb
  go_enter Try.func5, Try.ntmps5
  obtain ⟨k0, k1, k2, k3, k4, k5, k6, k7, k8, k9, k10⟩ := row11 hblk0.out
  go_upto_region 1 with (fail)
  rw [eW0.out, epb.out]
  clear eW0
  go_wp2_with fail
  refine (HK.out W0 hB0.out).mono ?_
  clear HK
  rintro e w3 ⟨P, rfl, pk, pok, b3⟩
  have hB3 := Lib.hid (below_top hB0.out b3)
  clear k0 k1 k2 k3 k4 k5 k6 k7 k8 k9 k10 hblk0 hB0 b3
  obtain ⟨codem, A1m, n1m, c1m, tickm, lowm, highm, widem, rulem, topm, leastm, partm, A2m, n2m, c2m, Qm, Rm⟩ := P
  rw [show PD.val ⟨codem, A1m, n1m, c1m, tickm, lowm, highm, widem, rulem, topm, leastm, partm, A2m, n2m, c2m, Qm, Rm⟩ = .agg #[.string (str codem), .slice A1m n1m c1m, .int .i64 tickm, .int .i64 lowm, .int .i64 highm, .int .i64 widem, .int .i64 rulem, .int .i64 topm, .int .i64 leastm, .int .i64 partm, .slice A2m n2m c2m] from rfl]
  obtain ⟨mb, emb⟩ : ∃ x, w3.heap.size = x := ⟨_, rfl⟩
  obtain ⟨W4, eW4⟩ : ∃ W, w3.alloc (.cells #[.string (str codem), .slice A1m n1m c1m, .int .i64 tickm, .int .i64 lowm, .int .i64 highm, .int .i64 widem, .int .i64 rulem, .int .i64 topm, .int .i64 leastm, .int .i64 partm, .slice A2m n2m c2m] 25) = W := ⟨_, rfl⟩
  have b34 : Below w3.heap.size w3 W4 := by rw [← eW4]; exact (Below.refl _ w3).alloc (Nat.le_refl _) _
  have hmb : W4.heap[mb]? = some (.cells #[.string (str codem), .slice A1m n1m c1m, .int .i64 tickm, .int .i64 lowm, .int .i64 highm, .int .i64 widem, .int .i64 rulem, .int .i64 topm, .int .i64 leastm, .int .i64 partm, .slice A2m n2m c2m] 25 (0, 0)) := by rw [← eW4, ← emb]; exact heap_alloc_new w3 _
  have hm4 : Hid (∀ W, Below W4.heap.size W4 W → W.heap[mb]? = some (.cells #[.string (str codem), .slice A1m n1m c1m, .int .i64 tickm, .int .i64 lowm, .int .i64 highm, .int .i64 widem, .int .i64 rulem, .int .i64 topm, .int .i64 leastm, .int .i64 partm, .slice A2m n2m c2m] 25 (0, 0))) := Lib.hid (fun W b => pd_blk' hmb b)
  have hB4 := Lib.hid (below_top hB3.out b34)
  have hOk4 : Hid (∀ W, Below W4.heap.size W4 W → PD.Ok ⟨codem, A1m, n1m, c1m, tickm, lowm, highm, widem, rulem, topm, leastm, partm, A2m, n2m, c2m, Qm, Rm⟩ W) := Lib.hid (fun W b => (pok.below b34).below b)
  have hk := Lib.hid pk
  replace eW4 := Lib.hid eW4
  replace emb := Lib.hid emb
  clear pk pok b34 hmb hB3
  have hlx : L.length = n := hA.out.1
  have HT : Hid (Calls Try.prog 18 #[.agg #[.string (str codem), .slice A1m n1m c1m, .int .i64 tickm, .int .i64 lowm, .int .i64 highm, .int .i64 widem, .int .i64 rulem, .int .i64 topm, .int .i64 leastm, .int .i64 partm, .slice A2m n2m c2m], .slice A n cap] W4 (GaveT 31 W4 (topsL tickm (cntL ⟨codem, A1m, n1m, c1m, tickm, lowm, highm, widem, rulem, topm, leastm, partm, A2m, n2m, c2m, Qm, Rm⟩) L))) := Lib.hid (Tops_any ⟨codem, A1m, n1m, c1m, tickm, lowm, highm, widem, rulem, topm, leastm, partm, A2m, n2m, c2m, Qm, Rm⟩ A n cap L W4 (Lib.hid (hOk4.out W4 (Below.refl _ _))) hk.out.t1 (by have := hk.out.t2; omega) (Lib.hid (hA.out.below hB4.out)) hok (by omega))
  have ht1 := topsL_len tickm (cntL ⟨codem, A1m, n1m, c1m, tickm, lowm, highm, widem, rulem, topm, leastm, partm, A2m, n2m, c2m, Qm, Rm⟩) L
  have ht2 : OkT (topsL tickm (cntL ⟨codem, A1m, n1m, c1m, tickm, lowm, highm, widem, rulem, topm, leastm, partm, A2m, n2m, c2m, Qm, Rm⟩) L) := topsL_ok hk.out.t1 (by have := hk.out.t2; omega)
  have ht3 : ∀ y ∈ topsL tickm (cntL ⟨codem, A1m, n1m, c1m, tickm, lowm, highm, widem, rulem, topm, leastm, partm, A2m, n2m, c2m, Qm, Rm⟩) L, y.Near := topsL_near hk.out.t1 (by have := hk.out.t2; omega)
  have ht4 : ∀ y ∈ topsL tickm (cntL ⟨codem, A1m, n1m, c1m, tickm, lowm, highm, widem, rulem, topm, leastm, partm, A2m, n2m, c2m, Qm, Rm⟩) L, y.Some0 := topsL_some
  obtain ⟨c1', c2', c3', c4', c5'⟩ := hk.out.cnt
  obtain ⟨cn, hcn⟩ : ∃ c, cntL ⟨codem, A1m, n1m, c1m, tickm, lowm, highm, widem, rulem, topm, leastm, partm, A2m, n2m, c2m, Qm, Rm⟩ = c := ⟨_, rfl⟩
  obtain ⟨TL, hTL⟩ : ∃ c, topsL tickm (cntL ⟨codem, A1m, n1m, c1m, tickm, lowm, highm, widem, rulem, topm, leastm, partm, A2m, n2m, c2m, Qm, Rm⟩) L = c := ⟨_, rfl⟩
  rw [hTL] at HT ht1 ht2 ht3 ht4
  rw [hcn] at ht1 c3' c4' c5'
  replace c1' : 2 ≤ n1m := c1'
  replace c2' : n1m ≤ 6 := c2'
  replace c3' : n1m ≤ cn := c3'
  replace hcn := Lib.hid hcn
  replace ht2 := Lib.hid ht2
  replace ht3 := Lib.hid ht3
  replace ht4 := Lib.hid ht4
  clear hTL hlx hA hok
  obtain ⟨k0, k1, k2, k3, k4, k5, k6, k7, k8, k9, k10⟩ := row11 (hm4.out W4 (Below.refl _ _))
  go_upto_region 2 with (fail)
  rw [eW4.out, emb.out]
  clear eW4 emb
  go_wp2_with fail
  refine HT.out.mono ?_
  rintro e w5 ⟨v5, rfl, ro, b5⟩
  have hOwn5 := ro
  obtain ⟨A5, c5, rfl, hv5, hn5, hc5, hA5, -⟩ := ro.slice
  rw [ht1] at hv5 hn5 ⊢
  have hB5 := Lib.hid (below_top hB4.out b5)
  have hm5 : Hid (∀ W, Below w5.heap.size w5 W → W.heap[mb]? = some (.cells #[.string (str codem), .slice A1m n1m c1m, .int .i64 tickm, .int .i64 lowm, .int .i64 highm, .int .i64 widem, .int .i64 rulem, .int .i64 topm, .int .i64 leastm, .int .i64 partm, .slice A2m n2m c2m] 25 (0, 0))) := Lib.hid (fun W b => hm4.out W (below_top b5 b))
  have hOk5 : Hid (∀ W, Below w5.heap.size w5 W → PD.Ok ⟨codem, A1m, n1m, c1m, tickm, lowm, highm, widem, rulem, topm, leastm, partm, A2m, n2m, c2m, Qm, Rm⟩ W) := Lib.hid (fun W b => hOk4.out W (below_top b5 b))
  have hV5 : Hid (∀ W, Below w5.heap.size w5 W → HV fTp W A5 cn TL) := Lib.hid (fun W b => hv5.below b)
  replace hOwn5 := Lib.hid hOwn5
  replace hA5 := Lib.hid hA5
  clear k0 k1 k2 k3 k4 k5 k6 k7 k8 k9 k10 HT ro b5 hv5 hm4 hOk4 hB4
  have HWkn : Hid (∀ W : World, Calls Try.prog 19 #[.int .i64 inst, .int .i64 0, .int .i64 ((cn : Int) - 1)] W fun e w' => e = .returned (.int .i64 (withinN inst (cn - 1) : Int)) ∧ w' = W) := Lib.hid (fun W => by have := Within_any inst (cn - 1) W (by omega) i1 i2; rw [show (((cn - 1) : Nat) : Int) = (cn : Int) - 1 by omega] at this; exact this)
  have hwkn := withinN_le inst (cn - 1)
  obtain ⟨kn, ekn⟩ : ∃ k, withinN inst (cn - 1) = k := ⟨_, rfl⟩
  rw [ekn] at HWkn hwkn
  clear ekn
  have hI64k : I64 (kn : Int) := ⟨by omega, by omega⟩
  have HA : Hid (∀ (s : Nat) (W : World), 1 ≤ s → s ≤ 2 → Below w5.heap.size w5 W → Calls Try.prog 13 #[.agg #[.string (str codem), .slice A1m n1m c1m, .int .i64 tickm, .int .i64 lowm, .int .i64 highm, .int .i64 widem, .int .i64 rulem, .int .i64 topm, .int .i64 leastm, .int .i64 partm, .slice A2m n2m c2m], .slice A5 cn c5, .int .i64 (kn : Int), .int .i64 (s : Int)] W (AnsQ W.heap.size W (quotesQ ⟨codem, A1m, n1m, c1m, tickm, lowm, highm, widem, rulem, topm, leastm, partm, A2m, n2m, c2m, Qm, Rm⟩ TL (kn : Int) (s : Int)))) := Lib.hid (fun s W h1 hs b => PQuotes_any ⟨codem, A1m, n1m, c1m, tickm, lowm, highm, widem, rulem, topm, leastm, partm, A2m, n2m, c2m, Qm, Rm⟩ A5 cn c5 TL (kn : Int) (s : Int) W (Lib.hid (hOk5.out W b)) (Lib.hid (hV5.out W b)) ht2 hI64k ⟨by omega, by omega⟩ (by omega))
  have HF : Hid (∀ s : Nat, ∀ q ∈ quotesQ ⟨codem, A1m, n1m, c1m, tickm, lowm, highm, widem, rulem, topm, leastm, partm, A2m, n2m, c2m, Qm, Rm⟩ TL (kn : Int) (s : Int), (-2000000 ≤ q.p ∧ q.p ≤ 2000000) ∧ (q.s1 = 1 ∨ q.s1 = 2) ∧ (q.s2 = 1 ∨ q.s2 = 2) ∧ priceL ⟨codem, A1m, n1m, c1m, tickm, lowm, highm, widem, rulem, topm, leastm, partm, A2m, n2m, c2m, Qm, Rm⟩ (kn : Int) q.p = 0 ∧ LegsOk ⟨codem, A1m, n1m, c1m, tickm, lowm, highm, widem, rulem, topm, leastm, partm, A2m, n2m, c2m, Qm, Rm⟩ TL (kn : Int) q) := Lib.hid (fun s q hq => by
    obtain ⟨n1, n2, n3⟩ := quotes_near ht3.out hq
    exact ⟨n1, n2, n3, of_decide_eq_true (List.mem_filter.1 hq).2, allQ_rule (List.mem_filter.1 hq).1⟩)
  have hlL : Hid (∀ s : Nat, (quotesQ ⟨codem, A1m, n1m, c1m, tickm, lowm, highm, widem, rulem, topm, leastm, partm, A2m, n2m, c2m, Qm, Rm⟩ TL (kn : Int) (s : Int)).length ≤ 100) := Lib.hid (fun s => quotesQ_len)
  have B55 := Lib.hid (Below.refl w5.heap.size w5)
  go_wp2_with fail
  refine (HWkn.out _).mono ?_
  rintro e ux ⟨rfl, eux⟩
  obtain rfl := eux.symm
  clear HWkn hk ht2 ht4
  go_wp2_with fail
  go_loopw [10] (fun iv wx => ∃ s : Nat, iv = .int .i64 (s : Int) ∧ 1 ≤ s ∧ s ≤ 3 ∧ Hid (Below w5.heap.size w5 wx)) (fun iv _ => (3 - intOf iv).toNat)
  case atStart => exact ⟨1, rfl, by omega, by omega, B55⟩
  case round =>
    clear B55
    obtain ⟨s, rfl, hs1, hs3, hB⟩ := hrel
    rename World => wo
    by_cases hs2 : s ≤ 2
    · have d1 : decide ((s : Int) ≤ 2) = true := decide_eq_true (by omega)
      have d2 : decide (s ≤ 2) = true := decide_eq_true (by omega)
      have d3 : (s : Int) ≤ 2 := by omega
      have HQ := Lib.hid (HA.out s wo hs1 hs2 hB.out)
      have hF := Lib.hid (HF.out s)
      have hlq := hlL.out s
      obtain ⟨LQ, eLQ⟩ : ∃ l, quotesQ ⟨codem, A1m, n1m, c1m, tickm, lowm, highm, widem, rulem, topm, leastm, partm, A2m, n2m, c2m, Qm, Rm⟩ TL (kn : Int) (s : Int) = l := ⟨_, rfl⟩
      rw [eLQ] at HQ hF hlq
      obtain ⟨k0, k1, k2, k3, k4, k5, k6, k7, k8, k9, k10⟩ := row11 (hm5.out wo hB.out)
      clear eLQ
      go_wp2_with fail
      refine HQ.out.mono ?_
      rintro e wq ⟨Aq, nq, cq, rfl, hvq, -, -, -, -, bq⟩
      have enq := hvq.1
      rw [enq] at hlq
      have Bq := Lib.hid (below_top hB.out bq)
      have hVq : Hid (∀ W, Below wq.heap.size wq W → HV fQt W Aq nq LQ) := Lib.hid (fun W b => hvq.below b)
      have Bqq := Lib.hid (Below.refl wq.heap.size wq)
      clear HQ k0 k1 k2 k3 k4 k5 k6 k7 k8 k9 k10 hvq bq hB
      go_wp2_with fail
      go_loopw [12] (fun iv wx => ∃ i : Nat, iv = .int .i64 (i : Int) ∧ i ≤ nq ∧ Hid (Below wq.heap.size wq wx)) (fun iv _ => nq - (intOf iv).toNat)
      case atStart => exact ⟨0, rfl, by omega, Bqq⟩
      case round =>
        clear Bqq
        obtain ⟨i, rfl, hi, hBi⟩ := hrel
        by_cases hlt : i < nq
        · have d4 : (i : Int) < (nq : Int) := by omega
          obtain ⟨q, hq⟩ : ∃ q, LQ[i]? = some q := ⟨_, List.getElem?_eq_getElem (by omega)⟩
          obtain ⟨hqn, hqs1, hqs2, hq0, hlg⟩ := hF.out q (List.mem_of_getElem? hq)
          obtain ⟨qp, qn, qi, qs, qj, qt⟩ := q
          obtain ⟨⟨a1, a2⟩, ⟨b1, b2⟩, -, -, hh1, hh2, hn1, hn2, hfd⟩ := hlg
          simp only at hqn hqs1 hqs2 hq0 a1 a2 b1 b2 hh1 hh2 hn1 hn2 hfd
          obtain ⟨j1, rfl⟩ : ∃ j : Nat, qi = (j : Int) := ⟨qi.toNat, by omega⟩
          obtain ⟨j2, rfl⟩ : ∃ j : Nat, qj = (j : Int) := ⟨qj.toNat, by omega⟩
          have hj1 : j1 < cn := by omega
          have hj2 : j2 < cn := by omega
          obtain ⟨x1, hx1⟩ : ∃ x, TL[j1]? = some x := ⟨_, List.getElem?_eq_getElem (by omega)⟩
          obtain ⟨x2, hx2⟩ : ∃ x, TL[j2]? = some x := ⟨_, List.getElem?_eq_getElem (by omega)⟩
          rw [topAt_get hx1] at hh1 hn1 hfd
          rw [topAt_get hx2] at hh2 hn2 hfd
          have hy1 := (ht3.out x1 (List.mem_of_getElem? hx1)).price qs
          have hy2 := (ht3.out x2 (List.mem_of_getElem? hx2)).price qt
          obtain ⟨xa1, xb1, xc1, xd1, xe1, xf1⟩ := x1
          obtain ⟨xa2, xb2, xc2, xd2, xe2, xf2⟩ := x2
          obtain ⟨r1, hr1⟩ : ∃ z, Tp.price ⟨xa1, xb1, xc1, xd1, xe1, xf1⟩ qs = z := ⟨_, rfl⟩
          obtain ⟨r2, hr2⟩ : ∃ z, Tp.price ⟨xa2, xb2, xc2, xd2, xe2, xf2⟩ qt = z := ⟨_, rfl⟩
          rw [hr1] at hfd hy1
          rw [hr2] at hfd hy2
          -- the place at which the spread is found
          have hpl : ∃ pn pm po : Nat, pn < 3 ∧ pm < 3 ∧ pn ≠ pm ∧ po + pn + pm = 3 ∧ legsL ⟨codem, A1m, n1m, c1m, tickm, lowm, highm, widem, rulem, topm, leastm, partm, A2m, n2m, c2m, Qm, Rm⟩ ([(kn : Int), (j1 : Int), (j2 : Int)].getD pn 0) = ([(kn : Int), (j1 : Int), (j2 : Int)].getD pm 0, [(kn : Int), (j1 : Int), (j2 : Int)].getD po 0, true) ∧ [qp, r1, r2].getD pm 0 - [qp, r1, r2].getD po 0 = [qp, r1, r2].getD pn 0 := by
            rcases hfd with ⟨e1, e2⟩ | ⟨e1, e2⟩ | ⟨e1, e2⟩
            · exact ⟨0, 1, 2, by decide, by decide, by decide, by decide, e1, e2⟩
            · exact ⟨1, 0, 2, by decide, by decide, by decide, by decide, e1, e2⟩
            · exact ⟨1, 2, 0, by decide, by decide, by decide, by decide, e1, e2⟩
          obtain ⟨pn, pm, po, hpl⟩ := hpl
          have hATb : ∀ z, z < 3 → I64 ([(kn : Int), (j1 : Int), (j2 : Int)].getD z 0) := fun z hz => by
            rcases (show z = 0 ∨ z = 1 ∨ z = 2 by omega) with rfl | rfl | rfl
            · exact ⟨by show _ ≤ (kn : Int); omega, by show (kn : Int) ≤ _; omega⟩
            · exact ⟨by show _ ≤ (j1 : Int); omega, by show (j1 : Int) ≤ _; omega⟩
            · exact ⟨by show _ ≤ (j2 : Int); omega, by show (j2 : Int) ≤ _; omega⟩
          have hPRb : Hid (∀ z, z < 3 → -10000000 ≤ [qp, r1, r2].getD z 0 ∧ [qp, r1, r2].getD z 0 ≤ 10000000) := Lib.hid (fun z hz => by
            rcases (show z = 0 ∨ z = 1 ∨ z = 2 by omega) with rfl | rfl | rfl
            · exact ⟨by show _ ≤ qp; omega, by show qp ≤ _; omega⟩
            · exact ⟨by show _ ≤ r1; omega, by show r1 ≤ _; omega⟩
            · exact ⟨by show _ ≤ r2; omega, by show r2 ≤ _; omega⟩)
          replace hATb := Lib.hid hATb
          replace hpl := Lib.hid hpl
          replace hh1 := Lib.hid hh1
          replace hh2 := Lib.hid hh2
          replace hr1 := Lib.hid hr1
          replace hr2 := Lib.hid hr2
          replace hq0 := Lib.hid hq0
          clear hfd hy1 hy2
          -- the two rows of three
          obtain ⟨bq, offq, eAq, y0, -⟩ := (hVq.out wr hBi.out).atQ hq
          subst eAq
          simp only at y0
          obtain ⟨ab, eab⟩ : ∃ x, wr.heap.size = x := ⟨_, rfl⟩
          obtain ⟨Wa, eWa⟩ : ∃ W, wr.alloc (.cells #[.int .i64 0, .int .i64 0, .int .i64 0] 46) = W := ⟨_, rfl⟩
          have hab : Wa.heap[ab]? = some (.cells #[.int .i64 0, .int .i64 0, .int .i64 0] 46 (0, 0)) := by rw [← eWa, ← eab]; exact heap_alloc_new wr _
          have bwa : Below wr.heap.size wr Wa := by rw [← eWa]; exact (Below.refl _ wr).alloc (Nat.le_refl _) _
          obtain ⟨qb, eqb⟩ : ∃ x, Wa.heap.size = x := ⟨_, rfl⟩
          have eqb' : wr.heap.size + 1 = qb := by rw [← eqb, ← eWa]; simp
          obtain ⟨Wb, eWb⟩ : ∃ W, Wa.alloc (.cells #[.int .i64 0, .int .i64 0, .int .i64 0] 47) = W := ⟨_, rfl⟩
          have hqb : Wb.heap[qb]? = some (.cells #[.int .i64 0, .int .i64 0, .int .i64 0] 47 (0, 0)) := by rw [← eWb, ← eqb]; exact heap_alloc_new Wa _
          have bwb : Below Wa.heap.size Wa Wb := by rw [← eWb]; exact (Below.refl _ Wa).alloc (Nat.le_refl _) _
          have hab2 : Wb.heap[ab]? = some (.cells #[.int .i64 0, .int .i64 0, .int .i64 0] 46 (0, 0)) := (bwb.block ab (Array.getElem?_eq_some_iff.1 hab).1).trans hab
          have hlt1 : ab < qb := by rw [← eqb]; exact (Array.getElem?_eq_some_iff.1 hab).1
          have hgeab : wr.heap.size ≤ ab := by omega
          have b0b : Below wr.heap.size wr Wb := below_top bwa bwb
          have hbq : bq < wr.heap.size := World.block_lt_of_cell? wr _ y0
          have y0b := (b0b.cell (p := ⟨bq, offq + i * 6, none⟩) hbq).trans y0
          have f1 := Lib.frozen_of_heap hab2 0
          have k1 : Wb.cell? ⟨ab, 0, none⟩ = some (.int .i64 0) := by rw [Lib.cell_of_heap hab2]; rfl
          have f2 := Lib.frozen_of_heap hqb 0
          have k2 : Wb.cell? ⟨qb, 0, none⟩ = some (.int .i64 0) := by rw [Lib.cell_of_heap hqb]; rfl
          have on1 := set_only Wb ab 0 (.int .i64 (kn : Int))
          have s1 := heap_setCell_same Wb ab 0 _ 46 (.int .i64 (kn : Int)) hab2
          have s2 := (on1.block qb (Array.getElem?_eq_some_iff.1 hqb).1 (fun e => by omega)).trans hqb
          have on2 := set_only (Wb.setCell ⟨ab, 0, none⟩ (.int .i64 (kn : Int))) qb 0 (.int .i64 qp)
          have s3 := heap_setCell_same _ qb 0 _ 47 (.int .i64 qp) s2
          have s4 := (on2.block ab (Array.getElem?_eq_some_iff.1 s1).1 (fun e => by omega)).trans s1
          have k3 : (Wb.setCell ⟨ab, 0, none⟩ (.int .i64 (kn : Int))).cell? ⟨qb, 0, none⟩ = some (.int .i64 0) := by rw [Lib.cell_of_heap s2]; rfl
          obtain ⟨Wc, eWc⟩ : ∃ W, ((Wb.setCell ⟨ab, 0, none⟩ (.int .i64 (kn : Int))).setCell ⟨qb, 0, none⟩ (.int .i64 qp)).drew = W := ⟨_, rfl⟩
          have hac : Hid (Wc.heap[ab]? = some (.cells #[.int .i64 (kn : Int), .int .i64 0, .int .i64 0] 46 (0, 0))) := Lib.hid (by rw [← eWc]; exact s4)
          have hqc : Hid (Wc.heap[qb]? = some (.cells #[.int .i64 qp, .int .i64 0, .int .i64 0] 47 (0, 0))) := Lib.hid (by rw [← eWc]; exact s3)
          have bc : Below wr.heap.size wr Wc := by rw [← eWc]; exact ((b0b.trans (on1.below b0b.size (fun k hk e => by omega))).trans (on2.below (Nat.le_trans b0b.size on1.size) (fun k hk e => by omega))).drew
          have hszc := bc.size
          have hTc : Hid (∀ W, Below wr.heap.size Wc W → HV fTp W A5 cn TL) := Lib.hid (fun W b => hV5.out W (below_top (below_top Bq.out hBi.out) (bc.trans b)))
          have hQc : Hid (∀ W, Below wr.heap.size Wc W → HV fQt W (some ⟨bq, offq, none⟩) nq LQ) := Lib.hid (fun W b => hVq.out W (below_top hBi.out (bc.trans b)))
          have hTB : Hid (∀ x : Addr, A5 = some x → x.block ≠ ab ∧ x.block ≠ qb) := Lib.hid (fun x hx => by
            obtain ⟨b, off, e5, t0, -⟩ := (hV5.out wr (below_top Bq.out hBi.out)).atT hx1
            rw [hx] at e5
            injection e5 with e5
            have := World.block_lt_of_cell? wr _ t0
            rw [e5]
            exact ⟨by show b ≠ ab; simp only at this; omega, by show b ≠ qb; simp only at this; omega⟩)
          have hne : ab ≠ qb := by omega
          have hgeq : wr.heap.size ≤ qb := by omega
          have di1 : decide ((i : Int) < (nq : Int)) = true := decide_eq_true (by omega)
          replace hx1 := Lib.hid hx1
          replace hx2 := Lib.hid hx2
          replace hq := Lib.hid hq
          replace bc := Lib.hid bc
          replace eWa := Lib.hid eWa
          replace eWb := Lib.hid eWb
          replace eWc := Lib.hid eWc
          replace eqb' := Lib.hid eqb'
          replace eqb := Lib.hid eqb
          replace eab := Lib.hid eab
          clear hab hqb hab2 bwa bwb b0b on1 s1 s2 on2 s3 s4 y0 hlt1 k2
          go_upto_region 13 with (fail)
          rw [eWa.out, eWb.out, eqb'.out, eab.out]
          clear eWa eWb eqb eqb' eab
          go_region
          rw [eWc.out]
          clear eWc f1 f2 k1 k3 y0b
          go_wp2_with fail
          refine IRul_legs (qn := qn) (s1 := qs) (s2 := qt) (r1 := r1) (r2 := r2) (j1 := j1) (j2 := j2) hTc hTB hQc hq hlt (by omega) hx1 hx2 hqs1 hqs2 hh1.out hh2.out hr1.out hr2.out hn1 hn2 hj1 hj2 hac hqc hgeab hgeq hne hszc (Lib.hid (fun _ _ d _ _ h => by cases d <;> exact h)) (Lib.hid ?_)
          rintro u6 u16 u57 u58 u59 u60 u61 u62 u63 u64 u65 u66 u67 u68 u69 u70 u71 u72 u73 u74 u75 u76 u77 u78 u79 u80 u81 u82 u83 u84 u85 u86 u87 u88 u89 u90 u91 u92 u93 u94 u95 u96 u97 u98 u99 u100 u101 u102 u103 u104 u105 u106 u107 u108 u109 u110 u111 u112 u113 u114 u115 u116 u117 u118 u119 u120 u121 u122 u123 u124 u125 u126 u127 u128 u129 u130 u131 u132 u133 u134 u135 u136 w4 ⟨ha4, hb4, B4⟩
          have hm4 : Hid (∀ W, Below w4.heap.size w4 W → W.heap[mb]? = some (.cells #[.string (str codem), .slice A1m n1m c1m, .int .i64 tickm, .int .i64 lowm, .int .i64 highm, .int .i64 widem, .int .i64 rulem, .int .i64 topm, .int .i64 leastm, .int .i64 partm, .slice A2m n2m c2m] 25 (0, 0))) := Lib.hid (fun W b => hm5.out W (below_top (below_top Bq.out hBi.out) (bc.out.trans (B4.out.trans (b.mono (Nat.le_trans hszc B4.out.size))))))
          have hOk4 : Hid (∀ W, Below w4.heap.size w4 W → PD.Ok ⟨codem, A1m, n1m, c1m, tickm, lowm, highm, widem, rulem, topm, leastm, partm, A2m, n2m, c2m, Qm, Rm⟩ W) := Lib.hid (fun W b => hOk5.out W (below_top (below_top Bq.out hBi.out) (bc.out.trans (B4.out.trans (b.mono (Nat.le_trans hszc B4.out.size))))))
          have hQ4 : Hid (∀ W, Below w4.heap.size w4 W → HV fQt W (some ⟨bq, offq, none⟩) nq LQ) := Lib.hid (fun W b => hQc.out W (B4.out.trans (b.mono (Nat.le_trans hszc B4.out.size))))
          have hat4 : Hid (∀ W, Below w4.heap.size w4 W → ∀ z, z < 3 → W.cell? ⟨ab, z, none⟩ = some (.int .i64 ([(kn : Int), (j1 : Int), (j2 : Int)].getD z 0)) ∧ W.cell? ⟨qb, z, none⟩ = some (.int .i64 ([qp, r1, r2].getD z 0))) := Lib.hid (fun W b z hz => by
            have g1 := (b.block ab (Array.getElem?_eq_some_iff.1 ha4.out).1).trans ha4.out
            have g2 := (b.block qb (Array.getElem?_eq_some_iff.1 hb4.out).1).trans hb4.out
            rw [Lib.cell_of_heap g1, Lib.cell_of_heap g2]
            rcases (show z = 0 ∨ z = 1 ∨ z = 2 by omega) with rfl | rfl | rfl <;> exact ⟨rfl, rfl⟩)
          have hL4 : Hid (∀ z, z < 3 → ∀ W, Below w4.heap.size w4 W → Calls Try.prog 20 #[.agg #[.string (str codem), .slice A1m n1m c1m, .int .i64 tickm, .int .i64 lowm, .int .i64 highm, .int .i64 widem, .int .i64 rulem, .int .i64 topm, .int .i64 leastm, .int .i64 partm, .slice A2m n2m c2m], .int .i64 ([(kn : Int), (j1 : Int), (j2 : Int)].getD z 0)] W fun e w' => e = .returned (.tuple #[.int .i64 (legsL ⟨codem, A1m, n1m, c1m, tickm, lowm, highm, widem, rulem, topm, leastm, partm, A2m, n2m, c2m, Qm, Rm⟩ ([(kn : Int), (j1 : Int), (j2 : Int)].getD z 0)).1, .int .i64 (legsL ⟨codem, A1m, n1m, c1m, tickm, lowm, highm, widem, rulem, topm, leastm, partm, A2m, n2m, c2m, Qm, Rm⟩ ([(kn : Int), (j1 : Int), (j2 : Int)].getD z 0)).2.1, .bool (legsL ⟨codem, A1m, n1m, c1m, tickm, lowm, highm, widem, rulem, topm, leastm, partm, A2m, n2m, c2m, Qm, Rm⟩ ([(kn : Int), (j1 : Int), (j2 : Int)].getD z 0)).2.2]) ∧ Below W.heap.size W w') := Lib.hid (fun z hz W b => PLegs_any ⟨codem, A1m, n1m, c1m, tickm, lowm, highm, widem, rulem, topm, leastm, partm, A2m, n2m, c2m, Qm, Rm⟩ _ W (Lib.hid (hOk4.out W b)) (hATb.out z hz))
          have Bw4 : Hid (Below wq.heap.size wq w4) := Lib.hid (below_top hBi.out (bc.out.trans B4.out))
          have hSf : wr.heap.size ≤ w4.heap.size := Nat.le_trans hszc B4.out.size
          clear hTc hQc hTB hac hqc ha4 hb4 B4 bc hx1 hx2 hATb hh1 hh2 hr1 hr2 hn1 hn2 hgeab hgeq hne hszc
          go_wp2_with fail
          refine IRul_find (AT := fun z => [(kn : Int), (j1 : Int), (j2 : Int)].getD z 0) (PR := fun z => [qp, r1, r2].getD z 0) (LG := legsL ⟨codem, A1m, n1m, c1m, tickm, lowm, highm, widem, rulem, topm, leastm, partm, A2m, n2m, c2m, Qm, Rm⟩) (pn := pn) (pm := pm) (po := po) hm4 hat4 hL4 hPRb hpl (Lib.hid (fun _ _ d _ _ h => by cases d <;> exact h)) (Lib.hid ?_)
          intro en v19 v20 v21 v22 v23 v137 v138 v139 v140 v141 v142 v143 v144 v145 v146 v147 v148 v149 v150 v151 v152 v153 v154 v155 v156 v157 v158 v159 v160 v161 v162 v163 v164 v165 v166 v167 v168 v169 v170 v171 v172 v173 v174 v175 v176 v177 v178 v179 v180 v181 v182 v183 v184 v185 v186 v187 v188 v189 v190 v191 v192 v193 v194 v195 v196 v197 v198 v199 v200 w6 B6
          have HPr : Hid (∀ W, Below w6.heap.size w6 W → Calls Try.prog 21 #[.agg #[.string (str codem), .slice A1m n1m c1m, .int .i64 tickm, .int .i64 lowm, .int .i64 highm, .int .i64 widem, .int .i64 rulem, .int .i64 topm, .int .i64 leastm, .int .i64 partm, .slice A2m n2m c2m], .int .i64 (kn : Int), .int .i64 qp] W fun e w' => e = .returned (.int .i64 0) ∧ Below W.heap.size W w') := Lib.hid (fun W b => by
            have h := PPrice_any ⟨codem, A1m, n1m, c1m, tickm, lowm, highm, widem, rulem, topm, leastm, partm, A2m, n2m, c2m, Qm, Rm⟩ (kn : Int) qp W (Lib.hid (hOk4.out W (below_top B6.out b))) hI64k ⟨by omega, by omega⟩
            rw [hq0.out] at h
            exact h)
          have hS : Hid (∀ W, Below w6.heap.size w6 W → (fun W : World => W.cell? ⟨mb, 0, none⟩ = some (.string (str codem)) ∧ W.cell? ⟨mb, 1, none⟩ = some (.slice A1m n1m c1m) ∧ W.cell? ⟨mb, 2, none⟩ = some (.int .i64 tickm) ∧ W.cell? ⟨mb, 3, none⟩ = some (.int .i64 lowm) ∧ W.cell? ⟨mb, 4, none⟩ = some (.int .i64 highm) ∧ W.cell? ⟨mb, 5, none⟩ = some (.int .i64 widem) ∧ W.cell? ⟨mb, 6, none⟩ = some (.int .i64 rulem) ∧ W.cell? ⟨mb, 7, none⟩ = some (.int .i64 topm) ∧ W.cell? ⟨mb, 8, none⟩ = some (.int .i64 leastm) ∧ W.cell? ⟨mb, 9, none⟩ = some (.int .i64 partm) ∧ W.cell? ⟨mb, 10, none⟩ = some (.slice A2m n2m c2m) ∧ W.cell? ⟨bq, offq + i * 6, none⟩ = some (.int .i64 qp)) W) := Lib.hid (fun W b => by
            obtain ⟨a0, a1, a2, a3, a4, a5, a6, a7, a8, a9, a10⟩ := row11 (hm4.out W (below_top B6.out b))
            obtain ⟨b', off', e', y0, -⟩ := (hQ4.out W (below_top B6.out b)).atQ hq.out
            injection e' with e'
            injection e' with e1 e2
            subst e1; subst e2
            exact ⟨a0, a1, a2, a3, a4, a5, a6, a7, a8, a9, a10, y0⟩)
          have Bf := Lib.hid (Below.refl w6.heap.size w6)
          have z0 : (fun W : World => W.cell? ⟨mb, 0, none⟩ = some (.string (str codem)) ∧ W.cell? ⟨mb, 1, none⟩ = some (.slice A1m n1m c1m) ∧ W.cell? ⟨mb, 2, none⟩ = some (.int .i64 tickm) ∧ W.cell? ⟨mb, 3, none⟩ = some (.int .i64 lowm) ∧ W.cell? ⟨mb, 4, none⟩ = some (.int .i64 highm) ∧ W.cell? ⟨mb, 5, none⟩ = some (.int .i64 widem) ∧ W.cell? ⟨mb, 6, none⟩ = some (.int .i64 rulem) ∧ W.cell? ⟨mb, 7, none⟩ = some (.int .i64 topm) ∧ W.cell? ⟨mb, 8, none⟩ = some (.int .i64 leastm) ∧ W.cell? ⟨mb, 9, none⟩ = some (.int .i64 partm) ∧ W.cell? ⟨mb, 10, none⟩ = some (.slice A2m n2m c2m) ∧ W.cell? ⟨bq, offq + i * 6, none⟩ = some (.int .i64 qp)) w6.drew := hS.out _ Bf.out.drew
          have Bw6 := Lib.hid (below_top Bw4.out B6.out)
          clear hm4 hOk4 hQ4 hat4 hL4 hpl hPRb hq hq0 B6 Bw4 hBi
          go_upto_region 32 with (fail)
          refine wp_region_held_drew (S := (fun W : World => W.cell? ⟨mb, 0, none⟩ = some (.string (str codem)) ∧ W.cell? ⟨mb, 1, none⟩ = some (.slice A1m n1m c1m) ∧ W.cell? ⟨mb, 2, none⟩ = some (.int .i64 tickm) ∧ W.cell? ⟨mb, 3, none⟩ = some (.int .i64 lowm) ∧ W.cell? ⟨mb, 4, none⟩ = some (.int .i64 highm) ∧ W.cell? ⟨mb, 5, none⟩ = some (.int .i64 widem) ∧ W.cell? ⟨mb, 6, none⟩ = some (.int .i64 rulem) ∧ W.cell? ⟨mb, 7, none⟩ = some (.int .i64 topm) ∧ W.cell? ⟨mb, 8, none⟩ = some (.int .i64 leastm) ∧ W.cell? ⟨mb, 9, none⟩ = some (.int .i64 partm) ∧ W.cell? ⟨mb, 10, none⟩ = some (.slice A2m n2m c2m) ∧ W.cell? ⟨bq, offq + i * 6, none⟩ = some (.int .i64 qp))) (by kernel_rfl) z0 (fun hHeld => ?_)
          refine wpAnyH_take (i := 0) (v := .bool true) rfl (by kernel_rfl) (by kernel_rfl) (by kernel_rfl) (fun _ _ _ h => h) (Or.inl ⟨by kernel_rfl, fun W hSw => ?_⟩) (by assumption) ?_
          · (try dsimp only at hSw)
            go_simp
          (try simp only [Act.put, List.setIfInBounds_toArray, List.set_cons_zero, List.set_cons_succ])
          refine wpAnyH_take (i := 1) (v := .bool false) rfl (by kernel_rfl) (by kernel_rfl) (by kernel_rfl) (fun _ _ _ h => h) (Or.inl ⟨by kernel_rfl, fun W hSw => ?_⟩) (by assumption) ?_
          · (try dsimp only at hSw)
            go_simp
          (try simp only [Act.put, List.setIfInBounds_toArray, List.set_cons_zero, List.set_cons_succ])
          refine wpAnyH_take (i := 2) (v := .bool false) rfl (by kernel_rfl) (by kernel_rfl) (by kernel_rfl) (fun _ _ _ h => h) (Or.inl ⟨by kernel_rfl, fun W hSw => ?_⟩) (by assumption) ?_
          · (try dsimp only at hSw)
            go_simp
          (try simp only [Act.put, List.setIfInBounds_toArray, List.set_cons_zero, List.set_cons_succ])
          refine wpAnyH_take (i := 3) (v := .agg #[.string (str codem), .slice A1m n1m c1m, .int .i64 tickm, .int .i64 lowm, .int .i64 highm, .int .i64 widem, .int .i64 rulem, .int .i64 topm, .int .i64 leastm, .int .i64 partm, .slice A2m n2m c2m]) rfl (by kernel_rfl) (by kernel_rfl) (by kernel_rfl) (fun _ _ _ h => h) (Or.inl ⟨by kernel_rfl, fun W hSw => ?_⟩) (by assumption) ?_
          · (try dsimp only at hSw)
            go_simp
          (try simp only [Act.put, List.setIfInBounds_toArray, List.set_cons_zero, List.set_cons_succ])
          refine wpAnyH_take (i := 4) (v := .int .i64 (kn : Int)) rfl (by kernel_rfl) (by kernel_rfl) (by kernel_rfl) (fun _ _ _ h => h) (Or.inl ⟨by kernel_rfl, fun W hSw => ?_⟩) (by assumption) ?_
          · (try dsimp only at hSw)
            go_simp
          (try simp only [Act.put, List.setIfInBounds_toArray, List.set_cons_zero, List.set_cons_succ])
          refine wpAnyH_take (i := 5) (v := .slice (some ⟨bq, offq, none⟩) nq cq) rfl (by kernel_rfl) (by kernel_rfl) (by kernel_rfl) (fun _ _ _ h => h) (Or.inl ⟨by kernel_rfl, fun W hSw => ?_⟩) (by assumption) ?_
          · (try dsimp only at hSw)
            go_simp
          (try simp only [Act.put, List.setIfInBounds_toArray, List.set_cons_zero, List.set_cons_succ])
          refine wpAnyH_take (i := 6) (v := .int .i64 (i : Int)) rfl (by kernel_rfl) (by kernel_rfl) (by kernel_rfl) (fun _ _ _ h => h) (Or.inl ⟨by kernel_rfl, fun W hSw => ?_⟩) (by assumption) ?_
          · (try dsimp only at hSw)
            go_simp
          (try simp only [Act.put, List.setIfInBounds_toArray, List.set_cons_zero, List.set_cons_succ])
          refine wpAnyH_take (i := 7) (v := .pointer (some ⟨bq, offq + i * 6, none⟩)) rfl (by kernel_rfl) (by kernel_rfl) (by kernel_rfl) (fun _ _ _ h => h) (Or.inl ⟨by kernel_rfl, fun W hSw => ?_⟩) (by assumption) ?_
          · (try dsimp only at hSw)
            go_simp
          (try simp only [Act.put, List.setIfInBounds_toArray, List.set_cons_zero, List.set_cons_succ])
          refine wpAnyH_take (i := 8) (v := .pointer (some ⟨bq, offq + i * 6, none⟩)) rfl (by kernel_rfl) (by kernel_rfl) (by kernel_rfl) (fun _ _ _ h => h) (Or.inl ⟨by kernel_rfl, fun W hSw => ?_⟩) (by assumption) ?_
          · (try dsimp only at hSw)
            go_simp
          (try simp only [Act.put, List.setIfInBounds_toArray, List.set_cons_zero, List.set_cons_succ])
          refine wpAnyH_take (i := 9) (v := .int .i64 qp) rfl (by kernel_rfl) (by kernel_rfl) (by kernel_rfl) (fun _ _ _ h => h) (Or.inl ⟨by kernel_rfl, fun W hSw => ?_⟩) (by assumption) ?_
          · (try dsimp only at hSw)
            go_simp
          (try simp only [Act.put, List.setIfInBounds_toArray, List.set_cons_zero, List.set_cons_succ])
          refine wpAnyH_ready (rs := [10]) (by kernel_rfl) (by simp) ?_
          refine AllReadyH.cons rfl (fun K hK => ?_) AllReadyH.nil
          go_simp
          refine (HPr.out _ Bf.out.drew).mono ?_
          rintro e wp ⟨rfl, bp⟩
          have Bp := below_top Bf.out.drew bp
          have zp := hS.out wp Bp
          refine hK.out _ _ zp (fun hHeld => ?_)
          clear hK K
          (try simp only [Act.put, List.setIfInBounds_toArray, List.set_cons_zero, List.set_cons_succ])
          refine wpAnyH_take (i := 11) (v := .bool false) rfl (by kernel_rfl) (by kernel_rfl) (by kernel_rfl) (fun _ _ _ h => h) (Or.inl ⟨by kernel_rfl, fun W hSw => ?_⟩) (by assumption) ?_
          · (try dsimp only at hSw)
            go_simp
          (try simp only [Act.put, List.setIfInBounds_toArray, List.set_cons_zero, List.set_cons_succ])
          refine wpAnyH_take (i := 12) (v := .bool false) rfl (by kernel_rfl) (by kernel_rfl) (by kernel_rfl) (fun _ _ _ h => h) (Or.inl ⟨by kernel_rfl, fun W hSw => ?_⟩) (by assumption) ?_
          · (try dsimp only at hSw)
            go_simp
          (try simp only [Act.put, List.setIfInBounds_toArray, List.set_cons_zero, List.set_cons_succ])
          refine wpAnyH_done (by kernel_rfl) ?_ _
          (try simp only [List.getElem_toArray, List.getElem_cons_succ, List.getElem_cons_zero, Act.put, List.setIfInBounds_toArray, List.set_cons_zero, List.set_cons_succ])
          have Bw7 := Lib.hid (below_top Bw6.out Bp)
          have hi1 : i + 1 ≤ nq := hlt
          clear hHeld z0 zp bp Bp hS HPr Bf Bw6
          go_wp2_with fail
          go_roundw
          case rel => exact ⟨i + 1, by go_num, hi1, Bw7⟩
          case measure => simp [intOf]; omega
        · have ei : i = nq := by omega
          have d1 : decide ((i : Int) < (nq : Int)) = false := decide_eq_false (by omega)
          have d2 : decide (i < nq) = false := decide_eq_false hlt
          have Bn := Lib.hid (below_top Bq.out hBi.out)
          replace ei := Lib.hid ei
          clear hlt
          go_wp2_with fail
          go_roundw
          case rel => exact ⟨s + 1, by go_num, by omega, by omega, Bn⟩
          case measure => simp [intOf]; omega
    · have es : s = 3 := by omega
      have d1 : decide ((s : Int) ≤ 2) = false := decide_eq_false (by omega)
      have d2 : decide (s ≤ 2) = false := decide_eq_false hs2
      have Bf := Lib.hid (below_top hB5.out hB.out)
      replace es := Lib.hid es
      clear hs2
      go_wp2_with fail
      refine (Known_any _).mono ?_
      rintro e wk ⟨rfl, bb⟩
      have Bk := Lib.hid (below_top Bf.out bb)
      clear bb
      go_wp2_with fail
      go_ret
      exact ⟨rfl, Bk.out⟩
end Go.Proofs.Ytdeofifidjbolaa
