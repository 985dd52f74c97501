/-
  The walk of the law ImpliedFewer.
-/
import Derived.Test.YtdeofifidjbolaaIpTells
import Derived.Test.YtdeofifidjbolaaIpEq
import Derived.Test.YtdeofifidjbolaaIpFewP
import Derived.Deep.QuietTactic
import Derived.BigQuiet
namespace Go.Proofs.Ytdeofifidjbolaa
open Go.RowKit
set_option linter.unusedVariables false
set_option linter.unusedSimpArgs false

set_option maxRecDepth 100000 in
set_option maxHeartbeats 8000000 in
theorem IFewer_walk (p : PD) (A : Option Addr) (n cap : Nat) (L : List Tp) (inst gone side : Int) (w : World) (h : Hid (p.Fit w)) (hA : Hid (HV fTp w A n L)) (hok : Hid (OkT L)) (hl : n ≤ cap) (hcap : cap ≤ 9223372036854775807) (i1 : -9223372036854775808 ≤ inst) (i2 : inst ≤ 9223372036854775807) (g1 : -9223372036854775808 ≤ gone) (g2 : gone ≤ 9223372036854775807) (s1 : -9223372036854775808 ≤ side) (s2 : side ≤ 9223372036854775807) :
    Calls Try.prog 8 #[p.val, .slice A n cap, .int .i64 inst, .int .i64 gone, .int .i64 side] w fun e w' => e = .returned (.bool true) ∧ Below w.heap.size w w' := by
  have HK : Hid (∀ W, Below w.heap.size w W → Calls Try.prog 17 #[p.val] W fun e w' => ∃ P : PD, e = .returned P.val ∧ P.Keep ∧ P.Ok w' ∧ Below W.heap.size W w') := Lib.hid (fun W b => KProd14 p W (Lib.hid (h.out.below b)))
  clear h
  obtain ⟨code, A1, n1, c1, tick, low, high, wide, rule, top, least, part, A2, n2, c2, Q, R⟩ := p
  replace HK : Hid (∀ W, Below w.heap.size w W → Calls Try.prog 17 #[.agg #[.string (str code), .slice A1 n1 c1, .int .i64 tick, .int .i64 low, .int .i64 high, .int .i64 wide, .int .i64 rule, .int .i64 top, .int .i64 least, .int .i64 part, .slice A2 n2 c2]] W fun e w' => ∃ P : PD, e = .returned P.val ∧ P.Keep ∧ P.Ok w' ∧ Below W.heap.size W w') := HK
  show Calls Try.prog 8 #[.agg #[.string (str code), .slice A1 n1 c1, .int .i64 tick, .int .i64 low, .int .i64 high, .int .i64 wide, .int .i64 rule, .int .i64 top, .int .i64 least, .int .i64 part, .slice A2 n2 c2], .slice A n cap, .int .i64 inst, .int .i64 gone, .int .i64 side] w _
  obtain ⟨W0, eW0⟩ : ∃ W0, w.alloc (.cells #[.string (str code), .slice A1 n1 c1, .int .i64 tick, .int .i64 low, .int .i64 high, .int .i64 wide, .int .i64 rule, .int .i64 top, .int .i64 least, .int .i64 part, .slice A2 n2 c2] 25) = W0 := ⟨_, rfl⟩
  obtain ⟨pb, epb⟩ : ∃ pb, w.heap.size = pb := ⟨_, rfl⟩
  have hblk0 : Hid (W0.heap[pb]? = some (.cells #[.string (str code), .slice A1 n1 c1, .int .i64 tick, .int .i64 low, .int .i64 high, .int .i64 wide, .int .i64 rule, .int .i64 top, .int .i64 least, .int .i64 part, .slice A2 n2 c2] 25 (0, 0))) := Lib.hid (by rw [← eW0, ← epb]; exact heap_alloc_new w _)
  have hB0 : Hid (Below w.heap.size w W0) := Lib.hid (by rw [← eW0]; exact (Below.refl _ w).alloc (Nat.le_refl _) _)
  replace eW0 := Lib.hid eW0
  replace epb := Lib.hid epb
  go_enter Try.func8, Try.ntmps8
  obtain ⟨k0, k1, k2, k3, k4, k5, k6, k7, k8, k9, k10⟩ := row11 hblk0.out
  go_upto_region 1 with (fail)
  rw [eW0.out, epb.out]
  clear eW0
  go_wp2_with fail
  refine (HK.out W0 hB0.out).mono ?_
  clear HK
  rintro e w3 ⟨P, rfl, pk, pok, b3⟩
  have hB3 := Lib.hid (below_top hB0.out b3)
  clear k0 k1 k2 k3 k4 k5 k6 k7 k8 k9 k10 hblk0 hB0 b3
  obtain ⟨codem, A1m, n1m, c1m, tickm, lowm, highm, widem, rulem, topm, leastm, partm, A2m, n2m, c2m, Qm, Rm⟩ := P
  rw [show PD.val ⟨codem, A1m, n1m, c1m, tickm, lowm, highm, widem, rulem, topm, leastm, partm, A2m, n2m, c2m, Qm, Rm⟩ = .agg #[.string (str codem), .slice A1m n1m c1m, .int .i64 tickm, .int .i64 lowm, .int .i64 highm, .int .i64 widem, .int .i64 rulem, .int .i64 topm, .int .i64 leastm, .int .i64 partm, .slice A2m n2m c2m] from rfl]
  obtain ⟨mb, emb⟩ : ∃ x, w3.heap.size = x := ⟨_, rfl⟩
  obtain ⟨W4, eW4⟩ : ∃ W, w3.alloc (.cells #[.string (str codem), .slice A1m n1m c1m, .int .i64 tickm, .int .i64 lowm, .int .i64 highm, .int .i64 widem, .int .i64 rulem, .int .i64 topm, .int .i64 leastm, .int .i64 partm, .slice A2m n2m c2m] 25) = W := ⟨_, rfl⟩
  have b34 : Below w3.heap.size w3 W4 := by rw [← eW4]; exact (Below.refl _ w3).alloc (Nat.le_refl _) _
  have hmb : W4.heap[mb]? = some (.cells #[.string (str codem), .slice A1m n1m c1m, .int .i64 tickm, .int .i64 lowm, .int .i64 highm, .int .i64 widem, .int .i64 rulem, .int .i64 topm, .int .i64 leastm, .int .i64 partm, .slice A2m n2m c2m] 25 (0, 0)) := by rw [← eW4, ← emb]; exact heap_alloc_new w3 _
  have hm4 : Hid (∀ W, Below W4.heap.size W4 W → W.heap[mb]? = some (.cells #[.string (str codem), .slice A1m n1m c1m, .int .i64 tickm, .int .i64 lowm, .int .i64 highm, .int .i64 widem, .int .i64 rulem, .int .i64 topm, .int .i64 leastm, .int .i64 partm, .slice A2m n2m c2m] 25 (0, 0))) := Lib.hid (fun W b => pd_blk' hmb b)
  have hB4 := Lib.hid (below_top hB3.out b34)
  have hOk4 : Hid (∀ W, Below W4.heap.size W4 W → PD.Ok ⟨codem, A1m, n1m, c1m, tickm, lowm, highm, widem, rulem, topm, leastm, partm, A2m, n2m, c2m, Qm, Rm⟩ W) := Lib.hid (fun W b => (pok.below b34).below b)
  have hk := Lib.hid pk
  replace eW4 := Lib.hid eW4
  replace emb := Lib.hid emb
  clear pk pok b34 hmb hB3
  obtain ⟨i0, hi0, hz0, hz1, hz2⟩ := info_parts info_kt
  have hlx : L.length = n := hA.out.1
  have HT : Hid (Calls Try.prog 18 #[.agg #[.string (str codem), .slice A1m n1m c1m, .int .i64 tickm, .int .i64 lowm, .int .i64 highm, .int .i64 widem, .int .i64 rulem, .int .i64 topm, .int .i64 leastm, .int .i64 partm, .slice A2m n2m c2m], .slice A n cap] W4 (GaveT 31 W4 (topsL tickm (cntL ⟨codem, A1m, n1m, c1m, tickm, lowm, highm, widem, rulem, topm, leastm, partm, A2m, n2m, c2m, Qm, Rm⟩) L))) := Lib.hid (Tops_any ⟨codem, A1m, n1m, c1m, tickm, lowm, highm, widem, rulem, topm, leastm, partm, A2m, n2m, c2m, Qm, Rm⟩ A n cap L W4 (Lib.hid (hOk4.out W4 (Below.refl _ _))) hk.out.t1 (by have := hk.out.t2; omega) (Lib.hid (hA.out.below hB4.out)) hok (by omega))
  have ht1 := topsL_len tickm (cntL ⟨codem, A1m, n1m, c1m, tickm, lowm, highm, widem, rulem, topm, leastm, partm, A2m, n2m, c2m, Qm, Rm⟩) L
  have ht2 : OkT (topsL tickm (cntL ⟨codem, A1m, n1m, c1m, tickm, lowm, highm, widem, rulem, topm, leastm, partm, A2m, n2m, c2m, Qm, Rm⟩) L) := topsL_ok hk.out.t1 (by have := hk.out.t2; omega)
  have ht3 : ∀ y ∈ topsL tickm (cntL ⟨codem, A1m, n1m, c1m, tickm, lowm, highm, widem, rulem, topm, leastm, partm, A2m, n2m, c2m, Qm, Rm⟩) L, y.Near := topsL_near hk.out.t1 (by have := hk.out.t2; omega)
  have ht4 : ∀ y ∈ topsL tickm (cntL ⟨codem, A1m, n1m, c1m, tickm, lowm, highm, widem, rulem, topm, leastm, partm, A2m, n2m, c2m, Qm, Rm⟩) L, y.Some0 := topsL_some
  obtain ⟨c1', c2', c3', c4', c5'⟩ := hk.out.cnt
  obtain ⟨cn, hcn⟩ : ∃ c, cntL ⟨codem, A1m, n1m, c1m, tickm, lowm, highm, widem, rulem, topm, leastm, partm, A2m, n2m, c2m, Qm, Rm⟩ = c := ⟨_, rfl⟩
  obtain ⟨TL, hTL⟩ : ∃ c, topsL tickm (cntL ⟨codem, A1m, n1m, c1m, tickm, lowm, highm, widem, rulem, topm, leastm, partm, A2m, n2m, c2m, Qm, Rm⟩) L = c := ⟨_, rfl⟩
  rw [hTL] at HT ht1 ht2 ht3 ht4
  rw [hcn] at ht1 c3' c4' c5'
  replace c1' : 2 ≤ n1m := c1'
  replace c2' : n1m ≤ 6 := c2'
  replace c3' : n1m ≤ cn := c3'
  replace hcn := Lib.hid hcn
  replace ht2 := Lib.hid ht2
  replace ht3 := Lib.hid ht3
  replace ht4 := Lib.hid ht4
  clear hTL hlx hA hok
  obtain ⟨k0, k1, k2, k3, k4, k5, k6, k7, k8, k9, k10⟩ := row11 (hm4.out W4 (Below.refl _ _))
  go_upto_region 2 with (fail)
  rw [eW4.out, emb.out]
  clear eW4 emb
  go_wp2_with fail
  refine HT.out.mono ?_
  rintro e w5 ⟨v5, rfl, ro, b5⟩
  have hOwn5 := ro
  obtain ⟨A5, c5, rfl, hv5, hn5, hc5, hA5, -⟩ := ro.slice
  rw [ht1] at hv5 hn5 ⊢
  have hB5 := Lib.hid (below_top hB4.out b5)
  have hm5 : Hid (∀ W, Below w5.heap.size w5 W → W.heap[mb]? = some (.cells #[.string (str codem), .slice A1m n1m c1m, .int .i64 tickm, .int .i64 lowm, .int .i64 highm, .int .i64 widem, .int .i64 rulem, .int .i64 topm, .int .i64 leastm, .int .i64 partm, .slice A2m n2m c2m] 25 (0, 0))) := Lib.hid (fun W b => hm4.out W (below_top b5 b))
  have hOk5 : Hid (∀ W, Below w5.heap.size w5 W → PD.Ok ⟨codem, A1m, n1m, c1m, tickm, lowm, highm, widem, rulem, topm, leastm, partm, A2m, n2m, c2m, Qm, Rm⟩ W) := Lib.hid (fun W b => hOk4.out W (below_top b5 b))
  have hV5 : Hid (∀ W, Below w5.heap.size w5 W → HV fTp W A5 cn TL) := Lib.hid (fun W b => hv5.below b)
  replace hOwn5 := Lib.hid hOwn5
  replace hA5 := Lib.hid hA5
  clear k0 k1 k2 k3 k4 k5 k6 k7 k8 k9 k10 HT ro b5 hv5 hm4 hOk4 hB4
  have HWkk : Hid (∀ W : World, Calls Try.prog 19 #[.int .i64 inst, .int .i64 0, .int .i64 ((cn : Int) - 1)] W fun e w' => e = .returned (.int .i64 (withinN inst (cn - 1) : Int)) ∧ w' = W) := Lib.hid (fun W => by have := Within_any inst (cn - 1) W (by omega) i1 i2; rw [show (((cn - 1) : Nat) : Int) = (cn : Int) - 1 by omega] at this; exact this)
  have hwkk := withinN_le inst (cn - 1)
  obtain ⟨kk, ekk⟩ : ∃ k, withinN inst (cn - 1) = k := ⟨_, rfl⟩
  rw [ekk] at HWkk hwkk
  clear ekk
  have HWkg : Hid (∀ W : World, Calls Try.prog 19 #[.int .i64 gone, .int .i64 0, .int .i64 ((cn : Int) - 1)] W fun e w' => e = .returned (.int .i64 (withinN gone (cn - 1) : Int)) ∧ w' = W) := Lib.hid (fun W => by have := Within_any gone (cn - 1) W (by omega) g1 g2; rw [show (((cn - 1) : Nat) : Int) = (cn : Int) - 1 by omega] at this; exact this)
  have hwkg := withinN_le gone (cn - 1)
  obtain ⟨kg, ekg⟩ : ∃ k, withinN gone (cn - 1) = k := ⟨_, rfl⟩
  rw [ekg] at HWkg hwkg
  clear ekg
  have HWkb : Hid (∀ W : World, Calls Try.prog 19 #[.int .i64 side, .int .i64 0, .int .i64 (1)] W fun e w' => e = .returned (.int .i64 (withinN side 1 : Int)) ∧ w' = W) := Lib.hid (fun W => by have := Within_any side 1 W (by omega) s1 s2; rw [show ((1 : Nat) : Int) = 1 by omega] at this; exact this)
  have hwkb := withinN_le side 1
  obtain ⟨kb, ekb⟩ : ∃ k, withinN side 1 = k := ⟨_, rfl⟩
  rw [ekb] at HWkb hwkb
  clear ekb
  rcases (show kb = 0 ∨ kb = 1 by omega) with rfl | rfl
  · skip
    go_wp2_with fail
    refine (HWkk.out _).mono ?_
    rintro e ux ⟨rfl, eux⟩
    obtain rfl := eux.symm
    go_wp2_with fail
    refine (HWkg.out _).mono ?_
    rintro e ux ⟨rfl, eux⟩
    obtain rfl := eux.symm
    go_wp2_with fail
    refine (HWkb.out _).mono ?_
    rintro e ux ⟨rfl, eux⟩
    obtain rfl := eux.symm
    clear HWkk HWkg HWkb
    have own0 := own_empty (fm := fTp) 31 w5 w5.heap.size (Nat.le_refl _)
    have bal : Below w5.heap.size w5 (w5.alloc (.cells #[] 31)) := (Below.refl _ w5).alloc (Nat.le_refl _) _
    have hv0 := hV5.out _ bal
    have sz3 : w5.heap.size ≤ (w5.alloc (.cells #[] 31)).heap.size := bal.size
    have hcn2 : ([] : List Tp).length + cn ≤ 1000000 := by simp; omega
    replace own0 := Lib.hid own0
    replace hv0 := Lib.hid hv0
    replace bal := Lib.hid bal
    go_wp2_with (at_builtin; refine wpList_onto_g (fm := fTp) (T := 31) (by rfl) (.tmp 39) (.tmp 40) 27 (by rfl) w5.heap.size i0 (.agg #[.bool false, .bool false, .int .i64 0, .int .i64 0, .int .i64 0, .int .i64 0]) 40 Try.underlying27 hi0 hz0 hz1 hz2 rfl (by omega) (.slice (some ⟨w5.heap.size, 0, none⟩) 0 0) [] (by rfl) own0.out A5 cn c5 TL (by rfl) hv0.out hA5.out hcn2 sz3 ?_)
    intro v8 w8 r8 g8 o8
    have b58 : Below w5.heap.size w5 w8 := bal.out.grown g8 sz3 (fun q hq => (own0.out.lt q hq).1)
    (try rw [List.nil_append] at r8)
    obtain ⟨gu, cu, cur, ev, hgb, hgl, hgh, -, -, hcs, -⟩ := r8.open' (by rw [ht1]; omega)
    rw [ht1] at ev
    subst ev
    have hxg : kg < TL.length := by omega
    obtain ⟨x, hx⟩ : ∃ x, TL[kg]? = some x := ⟨_, List.getElem?_eq_getElem hxg⟩
    have hcs6 : cur.size = cu * 6 := hcs
    have hcu := r8.slice
    obtain ⟨A9, c9, e9, -, l9, -⟩ := hcu
    rw [ht1] at e9 l9
    injection e9 with e91 e92 e93
    subst e93
    obtain ⟨⟨v0, cv0⟩, fv0⟩ := cells6 hgh (j := kg * 6) (by omega)
    have r9 : Own fTp 31 (w8.setCell ⟨gu, kg * 6, none⟩ (.bool false)) w5.heap.size (.slice (some ⟨gu, 0, none⟩) cn cu) (TL.set kg (dropX x 1)) := r8.putT (m := 0) (x' := dropX x 1) (v := .bool false) hx (by decide) (by obtain ⟨xa, xb, xc, xd, xe, xf⟩ := x; rfl)
    have b59 : Below w5.heap.size w5 (w8.setCell ⟨gu, kg * 6, none⟩ (.bool false)) := b58.trans ((set_only w8 gu _ _).below (B := w5.heap.size) b58.size (fun k hk e => by omega))
    obtain ⟨w9, e9w⟩ : ∃ W, w8.setCell ⟨gu, kg * 6, none⟩ (.bool false) = W := ⟨_, rfl⟩
    rw [e9w] at r9 b59
    have hm9 : Hid (∀ W, Below w9.heap.size w9 W → W.heap[mb]? = some (.cells #[.string (str codem), .slice A1m n1m c1m, .int .i64 tickm, .int .i64 lowm, .int .i64 highm, .int .i64 widem, .int .i64 rulem, .int .i64 topm, .int .i64 leastm, .int .i64 partm, .slice A2m n2m c2m] 25 (0, 0))) := Lib.hid (fun W b => hm5.out W (below_top b59 b))
    have B9 := Lib.hid (below_top hB5.out b59)
    have hV9 : Hid (∀ W, Below w9.heap.size w9 W → HV fTp W A5 cn TL) := Lib.hid (fun W b => hV5.out W (below_top b59 b))
    have hOk9 : Hid (∀ W, Below w9.heap.size w9 W → PD.Ok ⟨codem, A1m, n1m, c1m, tickm, lowm, highm, widem, rulem, topm, leastm, partm, A2m, n2m, c2m, Qm, Rm⟩ W) := Lib.hid (fun W b => hOk5.out W (below_top b59 b))
    obtain ⟨A9', c9', e9', h9', -⟩ := r9.slice
    rw [List.length_set, ht1] at e9' h9'
    injection e9' with e91' e92' e93'
    have hU9 : Hid (∀ W, Below w9.heap.size w9 W → HV fTp W (some ⟨gu, 0, none⟩) cn (TL.set kg (dropX x 1))) := Lib.hid (fun W b => by rw [e91']; exact h9'.below b)
    have hOkU : Hid (OkT (TL.set kg (dropX x 1))) := Lib.hid (fun y hy => by
      rcases List.mem_or_eq_of_mem_set hy with h | h
      · exact ht2.out y h
      · subst h
        have hxo := ht2.out x (List.mem_of_getElem? hx)
        obtain ⟨xa, xb, xc, xd, xe, xf⟩ := x
        exact ⟨hxo.p0, hxo.p1, hxo.q0, hxo.q1⟩)
    have dk1 : decide ((kg : Int) < (cn : Int)) = true := decide_eq_true (by omega)
    have dk3 : (kg : Int) < (cn : Int) := by omega
    have HA1 : Hid (∀ W, Below w9.heap.size w9 W → Calls Try.prog 14 #[.agg #[.string (str codem), .slice A1m n1m c1m, .int .i64 tickm, .int .i64 lowm, .int .i64 highm, .int .i64 widem, .int .i64 rulem, .int .i64 topm, .int .i64 leastm, .int .i64 partm, .slice A2m n2m c2m], .slice A5 cn c5, .int .i64 (kk : Int), .int .i64 1] W (AnsQ W.heap.size W (allQ ⟨codem, A1m, n1m, c1m, tickm, lowm, highm, widem, rulem, topm, leastm, partm, A2m, n2m, c2m, Qm, Rm⟩ TL (kk : Int) 1))) := Lib.hid (fun W b => PAll14_any ⟨codem, A1m, n1m, c1m, tickm, lowm, highm, widem, rulem, topm, leastm, partm, A2m, n2m, c2m, Qm, Rm⟩ A5 cn c5 TL (kk : Int) 1 W (Lib.hid (hOk9.out W b)) (Lib.hid (hV9.out W b)) ht2 ⟨by omega, by omega⟩ ⟨by omega, by omega⟩ (by omega))
    have HB1 : Hid (∀ W, Below w9.heap.size w9 W → Calls Try.prog 14 #[.agg #[.string (str codem), .slice A1m n1m c1m, .int .i64 tickm, .int .i64 lowm, .int .i64 highm, .int .i64 widem, .int .i64 rulem, .int .i64 topm, .int .i64 leastm, .int .i64 partm, .slice A2m n2m c2m], .slice (some ⟨gu, 0, none⟩) cn cu, .int .i64 (kk : Int), .int .i64 1] W (AnsQ W.heap.size W ((allQ ⟨codem, A1m, n1m, c1m, tickm, lowm, highm, widem, rulem, topm, leastm, partm, A2m, n2m, c2m, Qm, Rm⟩ TL (kk : Int) 1).filter (keepQ (kg : Int) 1)))) := Lib.hid (fun W b => by rw [← allQ_drop ⟨codem, A1m, n1m, c1m, tickm, lowm, highm, widem, rulem, topm, leastm, partm, A2m, n2m, c2m, Qm, Rm⟩ hx (s := 1) (by omega) (kk : Int) 1]; exact PAll14_any ⟨codem, A1m, n1m, c1m, tickm, lowm, highm, widem, rulem, topm, leastm, partm, A2m, n2m, c2m, Qm, Rm⟩ (some ⟨gu, 0, none⟩) cn cu (TL.set kg (dropX x 1)) (kk : Int) 1 W (Lib.hid (hOk9.out W b)) (Lib.hid (hU9.out W b)) hOkU ⟨by omega, by omega⟩ ⟨by omega, by omega⟩ (by omega))
    have la1 : (allQ ⟨codem, A1m, n1m, c1m, tickm, lowm, highm, widem, rulem, topm, leastm, partm, A2m, n2m, c2m, Qm, Rm⟩ TL (kk : Int) 1).length ≤ 100 := allQ_len
    have lb1 := Lib.hid (List.length_filter_le (keepQ (kg : Int) 1) (allQ ⟨codem, A1m, n1m, c1m, tickm, lowm, highm, widem, rulem, topm, leastm, partm, A2m, n2m, c2m, Qm, Rm⟩ TL (kk : Int) 1))
    obtain ⟨LA1, eLA1⟩ : ∃ l, allQ ⟨codem, A1m, n1m, c1m, tickm, lowm, highm, widem, rulem, topm, leastm, partm, A2m, n2m, c2m, Qm, Rm⟩ TL (kk : Int) 1 = l := ⟨_, rfl⟩
    rw [eLA1] at HA1 HB1 la1 lb1
    obtain ⟨LB1, eLB1⟩ : ∃ l, LA1.filter (keepQ (kg : Int) 1) = l := ⟨_, rfl⟩
    obtain ⟨JJ1, eJJ1⟩ : ∃ f : Nat → Nat, keptN (keepQ (kg : Int) 1) LA1 = f := ⟨_, rfl⟩
    have J01 : Hid (JJ1 0 = 0) := Lib.hid (by rw [← eJJ1]; exact keptN_zero _ _)
    have Je1 : Hid (JJ1 LA1.length = LB1.length) := Lib.hid (by rw [← eJJ1, ← eLB1]; exact keptN_end _ _)
    have Jl1 : Hid (∀ k, JJ1 k ≤ LB1.length + LA1.length) := Lib.hid (fun k => by rw [← eJJ1]; have := keptN_le (keepQ (kg : Int) 1) LA1 k; omega)
    have Jy1 : Hid (∀ k y, LA1[k]? = some y → keepQ (kg : Int) 1 y = true → JJ1 (k + 1) = JJ1 k + 1 ∧ LB1[JJ1 k]? = some y) := Lib.hid (fun k y h hf => by rw [← eJJ1, ← eLB1]; exact ⟨keptN_yes h hf, keptN_at h hf⟩)
    have Jx1 : Hid (∀ k y, LA1[k]? = some y → keepQ (kg : Int) 1 y = false → JJ1 (k + 1) = JJ1 k) := Lib.hid (fun k y h hf => by rw [← eJJ1]; exact keptN_no h hf)
    rw [eLB1] at HB1 lb1
    clear eLA1 eLB1 eJJ1
    have HA2 : Hid (∀ W, Below w9.heap.size w9 W → Calls Try.prog 14 #[.agg #[.string (str codem), .slice A1m n1m c1m, .int .i64 tickm, .int .i64 lowm, .int .i64 highm, .int .i64 widem, .int .i64 rulem, .int .i64 topm, .int .i64 leastm, .int .i64 partm, .slice A2m n2m c2m], .slice A5 cn c5, .int .i64 (kk : Int), .int .i64 2] W (AnsQ W.heap.size W (allQ ⟨codem, A1m, n1m, c1m, tickm, lowm, highm, widem, rulem, topm, leastm, partm, A2m, n2m, c2m, Qm, Rm⟩ TL (kk : Int) 2))) := Lib.hid (fun W b => PAll14_any ⟨codem, A1m, n1m, c1m, tickm, lowm, highm, widem, rulem, topm, leastm, partm, A2m, n2m, c2m, Qm, Rm⟩ A5 cn c5 TL (kk : Int) 2 W (Lib.hid (hOk9.out W b)) (Lib.hid (hV9.out W b)) ht2 ⟨by omega, by omega⟩ ⟨by omega, by omega⟩ (by omega))
    have HB2 : Hid (∀ W, Below w9.heap.size w9 W → Calls Try.prog 14 #[.agg #[.string (str codem), .slice A1m n1m c1m, .int .i64 tickm, .int .i64 lowm, .int .i64 highm, .int .i64 widem, .int .i64 rulem, .int .i64 topm, .int .i64 leastm, .int .i64 partm, .slice A2m n2m c2m], .slice (some ⟨gu, 0, none⟩) cn cu, .int .i64 (kk : Int), .int .i64 2] W (AnsQ W.heap.size W ((allQ ⟨codem, A1m, n1m, c1m, tickm, lowm, highm, widem, rulem, topm, leastm, partm, A2m, n2m, c2m, Qm, Rm⟩ TL (kk : Int) 2).filter (keepQ (kg : Int) 1)))) := Lib.hid (fun W b => by rw [← allQ_drop ⟨codem, A1m, n1m, c1m, tickm, lowm, highm, widem, rulem, topm, leastm, partm, A2m, n2m, c2m, Qm, Rm⟩ hx (s := 1) (by omega) (kk : Int) 2]; exact PAll14_any ⟨codem, A1m, n1m, c1m, tickm, lowm, highm, widem, rulem, topm, leastm, partm, A2m, n2m, c2m, Qm, Rm⟩ (some ⟨gu, 0, none⟩) cn cu (TL.set kg (dropX x 1)) (kk : Int) 2 W (Lib.hid (hOk9.out W b)) (Lib.hid (hU9.out W b)) hOkU ⟨by omega, by omega⟩ ⟨by omega, by omega⟩ (by omega))
    have la2 : (allQ ⟨codem, A1m, n1m, c1m, tickm, lowm, highm, widem, rulem, topm, leastm, partm, A2m, n2m, c2m, Qm, Rm⟩ TL (kk : Int) 2).length ≤ 100 := allQ_len
    have lb2 := Lib.hid (List.length_filter_le (keepQ (kg : Int) 1) (allQ ⟨codem, A1m, n1m, c1m, tickm, lowm, highm, widem, rulem, topm, leastm, partm, A2m, n2m, c2m, Qm, Rm⟩ TL (kk : Int) 2))
    obtain ⟨LA2, eLA2⟩ : ∃ l, allQ ⟨codem, A1m, n1m, c1m, tickm, lowm, highm, widem, rulem, topm, leastm, partm, A2m, n2m, c2m, Qm, Rm⟩ TL (kk : Int) 2 = l := ⟨_, rfl⟩
    rw [eLA2] at HA2 HB2 la2 lb2
    obtain ⟨LB2, eLB2⟩ : ∃ l, LA2.filter (keepQ (kg : Int) 1) = l := ⟨_, rfl⟩
    obtain ⟨JJ2, eJJ2⟩ : ∃ f : Nat → Nat, keptN (keepQ (kg : Int) 1) LA2 = f := ⟨_, rfl⟩
    have J02 : Hid (JJ2 0 = 0) := Lib.hid (by rw [← eJJ2]; exact keptN_zero _ _)
    have Je2 : Hid (JJ2 LA2.length = LB2.length) := Lib.hid (by rw [← eJJ2, ← eLB2]; exact keptN_end _ _)
    have Jl2 : Hid (∀ k, JJ2 k ≤ LB2.length + LA2.length) := Lib.hid (fun k => by rw [← eJJ2]; have := keptN_le (keepQ (kg : Int) 1) LA2 k; omega)
    have Jy2 : Hid (∀ k y, LA2[k]? = some y → keepQ (kg : Int) 1 y = true → JJ2 (k + 1) = JJ2 k + 1 ∧ LB2[JJ2 k]? = some y) := Lib.hid (fun k y h hf => by rw [← eJJ2, ← eLB2]; exact ⟨keptN_yes h hf, keptN_at h hf⟩)
    have Jx2 : Hid (∀ k y, LA2[k]? = some y → keepQ (kg : Int) 1 y = false → JJ2 (k + 1) = JJ2 k) := Lib.hid (fun k y h hf => by rw [← eJJ2]; exact keptN_no h hf)
    rw [eLB2] at HB2 lb2
    clear eLA2 eLB2 eJJ2
    have B99 := Lib.hid (Below.refl w9.heap.size w9)
    replace e9w := Lib.hid e9w
    clear hV9 hU9 hOk9 hOkU r8 r9 g8 o8 b58 b59 hgh hcs hgl hm5 hOk5 hV5 own0 hv0 bal hx hxg ht2 ht3 ht4 hk e91 e92 e91' e92' e93' h9' hOwn5 hgb l9 hA5
    go_upto_region 8 with (fail)
    rw [e9w.out]
    clear e9w cv0 fv0
    go_wp2_with fail
    go_loopw [16] (fun iv wr => (iv = .int .i64 1 ∧ Hid (Below w9.heap.size w9 wr)) ∨ (iv = .int .i64 2 ∧ Hid (Below w9.heap.size w9 wr)) ∨ (iv = .int .i64 3 ∧ Hid (Below w9.heap.size w9 wr))) (fun iv _ => (3 - intOf iv).toNat)
    case atStart => exact .inl ⟨rfl, B99⟩
    case round =>
      clear B99
      rcases hrel with ⟨rfl, hB⟩ | ⟨rfl, hB⟩ | ⟨rfl, hB⟩
      · skip
        obtain ⟨k0, k1, k2, k3, k4, k5, k6, k7, k8, k9, k10⟩ := row11 (hm9.out wr hB.out)
        have HA := Lib.hid (HA1.out wr hB.out)
        go_wp2_with fail
        refine HA.out.mono ?_
        rintro e wa ⟨Aa, na, ca, rfl, hva, -, -, -, -, bb⟩
        have Ba := Lib.hid (below_top hB.out bb)
        obtain rfl : na = LA1.length := hva.1.symm
        have hVa : Hid (∀ W, Below wa.heap.size wa W → HV fQt W Aa LA1.length LA1) := Lib.hid (fun W b => hva.below b)
        clear k0 k1 k2 k3 k4 k5 k6 k7 k8 k9 k10 HA hva bb
        obtain ⟨k0, k1, k2, k3, k4, k5, k6, k7, k8, k9, k10⟩ := row11 (hm9.out wa Ba.out)
        have HA := Lib.hid (HB1.out wa Ba.out)
        go_wp2_with fail
        refine HA.out.mono ?_
        rintro e wb ⟨Ab, nb, cb, rfl, hvb, -, -, -, -, bb⟩
        have Bb := Lib.hid (below_top Ba.out bb)
        obtain rfl : nb = LB1.length := hvb.1.symm
        have hVa2 : Hid (∀ W, Below wb.heap.size wb W → HV fQt W Aa LA1.length LA1) := Lib.hid (fun W b => hVa.out _ (below_top bb b))
        have hVb2 : Hid (∀ W, Below wb.heap.size wb W → HV fQt W Ab LB1.length LB1) := Lib.hid (fun W b => hvb.below b)
        have Bb0 := Lib.hid (Below.refl wb.heap.size wb)
        clear k0 k1 k2 k3 k4 k5 k6 k7 k8 k9 k10 HA hvb bb hVa Ba
        have jz0 := J01
        obtain ⟨na, ena⟩ : ∃ x, LA1.length = x := ⟨_, rfl⟩
        obtain ⟨nb, enb⟩ : ∃ x, LB1.length = x := ⟨_, rfl⟩
        have hla := la1
        have hjl := Jl1
        have hje := Je1
        rw [ena] at hVa2 hla hje ⊢
        rw [enb] at hVb2 hje ⊢
        rw [enb] at hjl
        have hex : Hid (∀ k, k < na → ∃ y, LA1[k]? = some y) := Lib.hid (fun k hk => ⟨_, List.getElem?_eq_getElem (by omega)⟩)
        replace ena := Lib.hid ena
        replace enb := Lib.hid enb
        have hlb : nb ≤ na := by have := lb1.out; rw [ena.out, enb.out] at this; exact this
        go_wp2_with fail
        go_loopw [19, 20] (fun jv iv w' => ∃ (k : Nat), iv = .int .i64 (k : Int) ∧ jv = .int .i64 (JJ1 k : Int) ∧ k ≤ na ∧ Hid (Below wb.heap.size wb w')) (fun _ iv _ => na - (intOf iv).toNat)
        case atStart => exact ⟨0, rfl, by rw [jz0.out]; rfl, by omega, Bb0⟩
        case round =>
          clear Bb0
          obtain ⟨k, rfl, rfl, hk, hBi⟩ := hrel
          by_cases hlt : k < na
          · have d1 : decide ((k : Int) < (na : Int)) = true := decide_eq_true (by omega)
            have d3 : (k : Int) < (na : Int) := by omega
            have hk1 : k + 1 ≤ na := by omega
            obtain ⟨y, hy⟩ := hex.out k hlt
            obtain ⟨ba, offa, rfl, y0, y1, y2, y3, y4, y5⟩ := (hVa2.out _ hBi.out).atQ hy
            have hjy := Jy1.out k y hy
            have hjx := Jx1.out k y hy
            have hjlt := hjl.out k
            obtain ⟨yp, yn, yi, ys, yj, yt⟩ := y
            simp only [keepQ] at y0 y1 y2 y3 y4 y5 hjy hjx
            obtain ⟨jj, ejj⟩ : ∃ x, JJ1 k = x := ⟨_, rfl⟩
            rw [ejj] at hjy hjx hjlt ⊢
            have bl : ∀ W : World, (Instr.build 34 #[(0, .int .i64 (kg : Int)), (1, .int .i64 1)]).run Try.prog W = .ok (.agg #[.int .i64 (kg : Int), .int .i64 1]) W := build_legP (kg : Int) 1
            have hl1 : ∀ W : World, (binOp .eql 34 (.agg #[.int .i64 yi, .int .i64 ys]) (.agg #[.int .i64 (kg : Int), .int .i64 1])).run Try.prog W = .ok (.bool (yi == (kg : Int) && ys == 1)) W := eql_leg yi ys (kg : Int) 1
            have hl2 : ∀ W : World, (binOp .eql 34 (.agg #[.int .i64 yj, .int .i64 yt]) (.agg #[.int .i64 (kg : Int), .int .i64 1])).run Try.prog W = .ok (.bool (yj == (kg : Int) && yt == 1)) W := eql_leg yj yt (kg : Int) 1
            have ed1 : (decide (yi = (kg : Int)) && decide (ys = 1)) = (yi == (kg : Int) && ys == 1) := rfl
            have ed2 : (decide (yj = (kg : Int)) && decide (yt = 1)) = (yj == (kg : Int) && yt == 1) := rfl
            rw [ed1, ed2] at hjy hjx
            obtain ⟨q1, eq1⟩ : ∃ b : Bool, (yi == (kg : Int) && ys == 1) = b := ⟨_, rfl⟩
            obtain ⟨q2, eq2⟩ : ∃ b : Bool, (yj == (kg : Int) && yt == 1) = b := ⟨_, rfl⟩
            rw [eq1] at hl1 hjy hjx
            rw [eq2] at hl2 hjy hjx
            replace ejj := Lib.hid ejj
            replace hy := Lib.hid hy
            clear eq1 eq2 ed1 ed2 hlt
            cases q1 with
            | true =>
              have hjn : Hid (Value.int .i64 (jj : Int) = .int .i64 (JJ1 (k + 1) : Int)) := Lib.hid (by rw [hjx rfl])
              clear hjy hjx hl2
              go_wp2_with fail
              go_roundw
              case rel => exact ⟨k + 1, by go_num, hjn.out, hk1, hBi⟩
              case measure => simp [intOf]; omega
            | false =>
            cases q2 with
            | true =>
              have hjn : Hid (Value.int .i64 (jj : Int) = .int .i64 (JJ1 (k + 1) : Int)) := Lib.hid (by rw [hjx rfl])
              clear hjy hjx
              go_wp2_with fail
              go_roundw
              case rel => exact ⟨k + 1, by go_num, hjn.out, hk1, hBi⟩
              case measure => simp [intOf]; omega
            | false =>
              obtain ⟨hjn0, hjat⟩ := hjy rfl
              have hjlt2 : jj < nb := by
                have := (List.getElem?_eq_some_iff.1 hjat).1
                rw [enb.out] at this; exact this
              have hjn : Hid (Value.int .i64 ((jj : Int) + 1) = .int .i64 (JJ1 (k + 1) : Int)) := Lib.hid (by rw [hjn0]; rfl)
              obtain ⟨bb, offb, rfl, x0, x1, x2, x3, x4, x5⟩ := (hVb2.out _ hBi.out).atQ hjat
              simp only at x0 x1 x2 x3 x4 x5
              have hne : ∀ W : World, (binOp .neq 37 (.agg #[.int .i64 yp, .int .i64 yn, .int .i64 yi, .int .i64 ys, .int .i64 yj, .int .i64 yt]) (.agg #[.int .i64 yp, .int .i64 yn, .int .i64 yi, .int .i64 ys, .int .i64 yj, .int .i64 yt])).run Try.prog W = .ok (.bool false) W := fun W => by rw [neq_quote]; simp
              have dj1 : decide ((nb : Int) ≤ (jj : Int)) = false := decide_eq_false (by omega)
              have dj2 : decide (nb ≤ jj) = false := decide_eq_false (by omega)
              have dj3 : decide ((jj : Int) < (nb : Int)) = true := decide_eq_true (by omega)
              have dj4 : (jj : Int) < (nb : Int) := by omega
              clear hjy hjx hjn0 hjat
              go_wp2_with fail
              go_quiet (fail)
              go_wp2_with fail
              go_roundw
              case rel => exact ⟨k + 1, by go_num, hjn.out, hk1, Lib.hid (below_drewN hBi.out _)⟩
              case measure => simp [intOf]; omega
          · obtain rfl : na = k := by omega
            have d1 : decide ((na : Int) < (na : Int)) = false := by simp
            have B10 := Lib.hid (below_top Bb.out hBi.out)
            rw [hje.out]
            have dn : ((nb : Int) != (nb : Int)) = false := by simp
            clear hlt hk
            go_wp2_with fail
            go_roundw
            case rel => exact .inr (.inl ⟨by go_num, B10⟩)
            case measure => simp [intOf]
      · skip
        obtain ⟨k0, k1, k2, k3, k4, k5, k6, k7, k8, k9, k10⟩ := row11 (hm9.out wr hB.out)
        have HA := Lib.hid (HA2.out wr hB.out)
        go_wp2_with fail
        refine HA.out.mono ?_
        rintro e wa ⟨Aa, na, ca, rfl, hva, -, -, -, -, bb⟩
        have Ba := Lib.hid (below_top hB.out bb)
        obtain rfl : na = LA2.length := hva.1.symm
        have hVa : Hid (∀ W, Below wa.heap.size wa W → HV fQt W Aa LA2.length LA2) := Lib.hid (fun W b => hva.below b)
        clear k0 k1 k2 k3 k4 k5 k6 k7 k8 k9 k10 HA hva bb
        obtain ⟨k0, k1, k2, k3, k4, k5, k6, k7, k8, k9, k10⟩ := row11 (hm9.out wa Ba.out)
        have HA := Lib.hid (HB2.out wa Ba.out)
        go_wp2_with fail
        refine HA.out.mono ?_
        rintro e wb ⟨Ab, nb, cb, rfl, hvb, -, -, -, -, bb⟩
        have Bb := Lib.hid (below_top Ba.out bb)
        obtain rfl : nb = LB2.length := hvb.1.symm
        have hVa2 : Hid (∀ W, Below wb.heap.size wb W → HV fQt W Aa LA2.length LA2) := Lib.hid (fun W b => hVa.out _ (below_top bb b))
        have hVb2 : Hid (∀ W, Below wb.heap.size wb W → HV fQt W Ab LB2.length LB2) := Lib.hid (fun W b => hvb.below b)
        have Bb0 := Lib.hid (Below.refl wb.heap.size wb)
        clear k0 k1 k2 k3 k4 k5 k6 k7 k8 k9 k10 HA hvb bb hVa Ba
        have jz0 := J02
        obtain ⟨na, ena⟩ : ∃ x, LA2.length = x := ⟨_, rfl⟩
        obtain ⟨nb, enb⟩ : ∃ x, LB2.length = x := ⟨_, rfl⟩
        have hla := la2
        have hjl := Jl2
        have hje := Je2
        rw [ena] at hVa2 hla hje ⊢
        rw [enb] at hVb2 hje ⊢
        rw [enb] at hjl
        have hex : Hid (∀ k, k < na → ∃ y, LA2[k]? = some y) := Lib.hid (fun k hk => ⟨_, List.getElem?_eq_getElem (by omega)⟩)
        replace ena := Lib.hid ena
        replace enb := Lib.hid enb
        have hlb : nb ≤ na := by have := lb2.out; rw [ena.out, enb.out] at this; exact this
        go_wp2_with fail
        go_loopw [19, 20] (fun jv iv w' => ∃ (k : Nat), iv = .int .i64 (k : Int) ∧ jv = .int .i64 (JJ2 k : Int) ∧ k ≤ na ∧ Hid (Below wb.heap.size wb w')) (fun _ iv _ => na - (intOf iv).toNat)
        case atStart => exact ⟨0, rfl, by rw [jz0.out]; rfl, by omega, Bb0⟩
        case round =>
          clear Bb0
          obtain ⟨k, rfl, rfl, hk, hBi⟩ := hrel
          by_cases hlt : k < na
          · have d1 : decide ((k : Int) < (na : Int)) = true := decide_eq_true (by omega)
            have d3 : (k : Int) < (na : Int) := by omega
            have hk1 : k + 1 ≤ na := by omega
            obtain ⟨y, hy⟩ := hex.out k hlt
            obtain ⟨ba, offa, rfl, y0, y1, y2, y3, y4, y5⟩ := (hVa2.out _ hBi.out).atQ hy
            have hjy := Jy2.out k y hy
            have hjx := Jx2.out k y hy
            have hjlt := hjl.out k
            obtain ⟨yp, yn, yi, ys, yj, yt⟩ := y
            simp only [keepQ] at y0 y1 y2 y3 y4 y5 hjy hjx
            obtain ⟨jj, ejj⟩ : ∃ x, JJ2 k = x := ⟨_, rfl⟩
            rw [ejj] at hjy hjx hjlt ⊢
            have bl : ∀ W : World, (Instr.build 34 #[(0, .int .i64 (kg : Int)), (1, .int .i64 1)]).run Try.prog W = .ok (.agg #[.int .i64 (kg : Int), .int .i64 1]) W := build_legP (kg : Int) 1
            have hl1 : ∀ W : World, (binOp .eql 34 (.agg #[.int .i64 yi, .int .i64 ys]) (.agg #[.int .i64 (kg : Int), .int .i64 1])).run Try.prog W = .ok (.bool (yi == (kg : Int) && ys == 1)) W := eql_leg yi ys (kg : Int) 1
            have hl2 : ∀ W : World, (binOp .eql 34 (.agg #[.int .i64 yj, .int .i64 yt]) (.agg #[.int .i64 (kg : Int), .int .i64 1])).run Try.prog W = .ok (.bool (yj == (kg : Int) && yt == 1)) W := eql_leg yj yt (kg : Int) 1
            have ed1 : (decide (yi = (kg : Int)) && decide (ys = 1)) = (yi == (kg : Int) && ys == 1) := rfl
            have ed2 : (decide (yj = (kg : Int)) && decide (yt = 1)) = (yj == (kg : Int) && yt == 1) := rfl
            rw [ed1, ed2] at hjy hjx
            obtain ⟨q1, eq1⟩ : ∃ b : Bool, (yi == (kg : Int) && ys == 1) = b := ⟨_, rfl⟩
            obtain ⟨q2, eq2⟩ : ∃ b : Bool, (yj == (kg : Int) && yt == 1) = b := ⟨_, rfl⟩
            rw [eq1] at hl1 hjy hjx
            rw [eq2] at hl2 hjy hjx
            replace ejj := Lib.hid ejj
            replace hy := Lib.hid hy
            clear eq1 eq2 ed1 ed2 hlt
            cases q1 with
            | true =>
              have hjn : Hid (Value.int .i64 (jj : Int) = .int .i64 (JJ2 (k + 1) : Int)) := Lib.hid (by rw [hjx rfl])
              clear hjy hjx hl2
              go_wp2_with fail
              go_roundw
              case rel => exact ⟨k + 1, by go_num, hjn.out, hk1, hBi⟩
              case measure => simp [intOf]; omega
            | false =>
            cases q2 with
            | true =>
              have hjn : Hid (Value.int .i64 (jj : Int) = .int .i64 (JJ2 (k + 1) : Int)) := Lib.hid (by rw [hjx rfl])
              clear hjy hjx
              go_wp2_with fail
              go_roundw
              case rel => exact ⟨k + 1, by go_num, hjn.out, hk1, hBi⟩
              case measure => simp [intOf]; omega
            | false =>
              obtain ⟨hjn0, hjat⟩ := hjy rfl
              have hjlt2 : jj < nb := by
                have := (List.getElem?_eq_some_iff.1 hjat).1
                rw [enb.out] at this; exact this
              have hjn : Hid (Value.int .i64 ((jj : Int) + 1) = .int .i64 (JJ2 (k + 1) : Int)) := Lib.hid (by rw [hjn0]; rfl)
              obtain ⟨bb, offb, rfl, x0, x1, x2, x3, x4, x5⟩ := (hVb2.out _ hBi.out).atQ hjat
              simp only at x0 x1 x2 x3 x4 x5
              have hne : ∀ W : World, (binOp .neq 37 (.agg #[.int .i64 yp, .int .i64 yn, .int .i64 yi, .int .i64 ys, .int .i64 yj, .int .i64 yt]) (.agg #[.int .i64 yp, .int .i64 yn, .int .i64 yi, .int .i64 ys, .int .i64 yj, .int .i64 yt])).run Try.prog W = .ok (.bool false) W := fun W => by rw [neq_quote]; simp
              have dj1 : decide ((nb : Int) ≤ (jj : Int)) = false := decide_eq_false (by omega)
              have dj2 : decide (nb ≤ jj) = false := decide_eq_false (by omega)
              have dj3 : decide ((jj : Int) < (nb : Int)) = true := decide_eq_true (by omega)
              have dj4 : (jj : Int) < (nb : Int) := by omega
              clear hjy hjx hjn0 hjat
              go_wp2_with fail
              go_quiet (fail)
              go_wp2_with fail
              go_roundw
              case rel => exact ⟨k + 1, by go_num, hjn.out, hk1, Lib.hid (below_drewN hBi.out _)⟩
              case measure => simp [intOf]; omega
          · obtain rfl : na = k := by omega
            have d1 : decide ((na : Int) < (na : Int)) = false := by simp
            have B10 := Lib.hid (below_top Bb.out hBi.out)
            rw [hje.out]
            have dn : ((nb : Int) != (nb : Int)) = false := by simp
            clear hlt hk
            go_wp2_with fail
            go_roundw
            case rel => exact .inr (.inr ⟨by go_num, B10⟩)
            case measure => simp [intOf]
      · have Bf := Lib.hid (below_top B9.out hB.out)
        go_wp2_with fail
        refine (Known_any _).mono ?_
        rintro e wk ⟨rfl, bb⟩
        have Bk := Lib.hid (below_top Bf.out bb)
        clear bb
        go_wp2_with fail
        go_ret
        exact ⟨rfl, Bk.out⟩
  · skip
    go_wp2_with fail
    refine (HWkk.out _).mono ?_
    rintro e ux ⟨rfl, eux⟩
    obtain rfl := eux.symm
    go_wp2_with fail
    refine (HWkg.out _).mono ?_
    rintro e ux ⟨rfl, eux⟩
    obtain rfl := eux.symm
    go_wp2_with fail
    refine (HWkb.out _).mono ?_
    rintro e ux ⟨rfl, eux⟩
    obtain rfl := eux.symm
    clear HWkk HWkg HWkb
    have own0 := own_empty (fm := fTp) 31 w5 w5.heap.size (Nat.le_refl _)
    have bal : Below w5.heap.size w5 (w5.alloc (.cells #[] 31)) := (Below.refl _ w5).alloc (Nat.le_refl _) _
    have hv0 := hV5.out _ bal
    have sz3 : w5.heap.size ≤ (w5.alloc (.cells #[] 31)).heap.size := bal.size
    have hcn2 : ([] : List Tp).length + cn ≤ 1000000 := by simp; omega
    replace own0 := Lib.hid own0
    replace hv0 := Lib.hid hv0
    replace bal := Lib.hid bal
    go_wp2_with (at_builtin; refine wpList_onto_g (fm := fTp) (T := 31) (by rfl) (.tmp 39) (.tmp 40) 27 (by rfl) w5.heap.size i0 (.agg #[.bool false, .bool false, .int .i64 0, .int .i64 0, .int .i64 0, .int .i64 0]) 40 Try.underlying27 hi0 hz0 hz1 hz2 rfl (by omega) (.slice (some ⟨w5.heap.size, 0, none⟩) 0 0) [] (by rfl) own0.out A5 cn c5 TL (by rfl) hv0.out hA5.out hcn2 sz3 ?_)
    intro v8 w8 r8 g8 o8
    have b58 : Below w5.heap.size w5 w8 := bal.out.grown g8 sz3 (fun q hq => (own0.out.lt q hq).1)
    (try rw [List.nil_append] at r8)
    obtain ⟨gu, cu, cur, ev, hgb, hgl, hgh, -, -, hcs, -⟩ := r8.open' (by rw [ht1]; omega)
    rw [ht1] at ev
    subst ev
    have hxg : kg < TL.length := by omega
    obtain ⟨x, hx⟩ : ∃ x, TL[kg]? = some x := ⟨_, List.getElem?_eq_getElem hxg⟩
    have hcs6 : cur.size = cu * 6 := hcs
    have hcu := r8.slice
    obtain ⟨A9, c9, e9, -, l9, -⟩ := hcu
    rw [ht1] at e9 l9
    injection e9 with e91 e92 e93
    subst e93
    obtain ⟨⟨v0, cv0⟩, fv0⟩ := cells6 hgh (j := kg * 6 + 1) (by omega)
    have r9 : Own fTp 31 (w8.setCell ⟨gu, kg * 6 + 1, none⟩ (.bool false)) w5.heap.size (.slice (some ⟨gu, 0, none⟩) cn cu) (TL.set kg (dropX x 2)) := r8.putT (m := 1) (x' := dropX x 2) (v := .bool false) hx (by decide) (by obtain ⟨xa, xb, xc, xd, xe, xf⟩ := x; rfl)
    have b59 : Below w5.heap.size w5 (w8.setCell ⟨gu, kg * 6 + 1, none⟩ (.bool false)) := b58.trans ((set_only w8 gu _ _).below (B := w5.heap.size) b58.size (fun k hk e => by omega))
    obtain ⟨w9, e9w⟩ : ∃ W, w8.setCell ⟨gu, kg * 6 + 1, none⟩ (.bool false) = W := ⟨_, rfl⟩
    rw [e9w] at r9 b59
    have hm9 : Hid (∀ W, Below w9.heap.size w9 W → W.heap[mb]? = some (.cells #[.string (str codem), .slice A1m n1m c1m, .int .i64 tickm, .int .i64 lowm, .int .i64 highm, .int .i64 widem, .int .i64 rulem, .int .i64 topm, .int .i64 leastm, .int .i64 partm, .slice A2m n2m c2m] 25 (0, 0))) := Lib.hid (fun W b => hm5.out W (below_top b59 b))
    have B9 := Lib.hid (below_top hB5.out b59)
    have hV9 : Hid (∀ W, Below w9.heap.size w9 W → HV fTp W A5 cn TL) := Lib.hid (fun W b => hV5.out W (below_top b59 b))
    have hOk9 : Hid (∀ W, Below w9.heap.size w9 W → PD.Ok ⟨codem, A1m, n1m, c1m, tickm, lowm, highm, widem, rulem, topm, leastm, partm, A2m, n2m, c2m, Qm, Rm⟩ W) := Lib.hid (fun W b => hOk5.out W (below_top b59 b))
    obtain ⟨A9', c9', e9', h9', -⟩ := r9.slice
    rw [List.length_set, ht1] at e9' h9'
    injection e9' with e91' e92' e93'
    have hU9 : Hid (∀ W, Below w9.heap.size w9 W → HV fTp W (some ⟨gu, 0, none⟩) cn (TL.set kg (dropX x 2))) := Lib.hid (fun W b => by rw [e91']; exact h9'.below b)
    have hOkU : Hid (OkT (TL.set kg (dropX x 2))) := Lib.hid (fun y hy => by
      rcases List.mem_or_eq_of_mem_set hy with h | h
      · exact ht2.out y h
      · subst h
        have hxo := ht2.out x (List.mem_of_getElem? hx)
        obtain ⟨xa, xb, xc, xd, xe, xf⟩ := x
        exact ⟨hxo.p0, hxo.p1, hxo.q0, hxo.q1⟩)
    have dk1 : decide ((kg : Int) < (cn : Int)) = true := decide_eq_true (by omega)
    have dk3 : (kg : Int) < (cn : Int) := by omega
    have HA1 : Hid (∀ W, Below w9.heap.size w9 W → Calls Try.prog 14 #[.agg #[.string (str codem), .slice A1m n1m c1m, .int .i64 tickm, .int .i64 lowm, .int .i64 highm, .int .i64 widem, .int .i64 rulem, .int .i64 topm, .int .i64 leastm, .int .i64 partm, .slice A2m n2m c2m], .slice A5 cn c5, .int .i64 (kk : Int), .int .i64 1] W (AnsQ W.heap.size W (allQ ⟨codem, A1m, n1m, c1m, tickm, lowm, highm, widem, rulem, topm, leastm, partm, A2m, n2m, c2m, Qm, Rm⟩ TL (kk : Int) 1))) := Lib.hid (fun W b => PAll14_any ⟨codem, A1m, n1m, c1m, tickm, lowm, highm, widem, rulem, topm, leastm, partm, A2m, n2m, c2m, Qm, Rm⟩ A5 cn c5 TL (kk : Int) 1 W (Lib.hid (hOk9.out W b)) (Lib.hid (hV9.out W b)) ht2 ⟨by omega, by omega⟩ ⟨by omega, by omega⟩ (by omega))
    have HB1 : Hid (∀ W, Below w9.heap.size w9 W → Calls Try.prog 14 #[.agg #[.string (str codem), .slice A1m n1m c1m, .int .i64 tickm, .int .i64 lowm, .int .i64 highm, .int .i64 widem, .int .i64 rulem, .int .i64 topm, .int .i64 leastm, .int .i64 partm, .slice A2m n2m c2m], .slice (some ⟨gu, 0, none⟩) cn cu, .int .i64 (kk : Int), .int .i64 1] W (AnsQ W.heap.size W ((allQ ⟨codem, A1m, n1m, c1m, tickm, lowm, highm, widem, rulem, topm, leastm, partm, A2m, n2m, c2m, Qm, Rm⟩ TL (kk : Int) 1).filter (keepQ (kg : Int) 2)))) := Lib.hid (fun W b => by rw [← allQ_drop ⟨codem, A1m, n1m, c1m, tickm, lowm, highm, widem, rulem, topm, leastm, partm, A2m, n2m, c2m, Qm, Rm⟩ hx (s := 2) (by omega) (kk : Int) 1]; exact PAll14_any ⟨codem, A1m, n1m, c1m, tickm, lowm, highm, widem, rulem, topm, leastm, partm, A2m, n2m, c2m, Qm, Rm⟩ (some ⟨gu, 0, none⟩) cn cu (TL.set kg (dropX x 2)) (kk : Int) 1 W (Lib.hid (hOk9.out W b)) (Lib.hid (hU9.out W b)) hOkU ⟨by omega, by omega⟩ ⟨by omega, by omega⟩ (by omega))
    have la1 : (allQ ⟨codem, A1m, n1m, c1m, tickm, lowm, highm, widem, rulem, topm, leastm, partm, A2m, n2m, c2m, Qm, Rm⟩ TL (kk : Int) 1).length ≤ 100 := allQ_len
    have lb1 := Lib.hid (List.length_filter_le (keepQ (kg : Int) 2) (allQ ⟨codem, A1m, n1m, c1m, tickm, lowm, highm, widem, rulem, topm, leastm, partm, A2m, n2m, c2m, Qm, Rm⟩ TL (kk : Int) 1))
    obtain ⟨LA1, eLA1⟩ : ∃ l, allQ ⟨codem, A1m, n1m, c1m, tickm, lowm, highm, widem, rulem, topm, leastm, partm, A2m, n2m, c2m, Qm, Rm⟩ TL (kk : Int) 1 = l := ⟨_, rfl⟩
    rw [eLA1] at HA1 HB1 la1 lb1
    obtain ⟨LB1, eLB1⟩ : ∃ l, LA1.filter (keepQ (kg : Int) 2) = l := ⟨_, rfl⟩
    obtain ⟨JJ1, eJJ1⟩ : ∃ f : Nat → Nat, keptN (keepQ (kg : Int) 2) LA1 = f := ⟨_, rfl⟩
    have J01 : Hid (JJ1 0 = 0) := Lib.hid (by rw [← eJJ1]; exact keptN_zero _ _)
    have Je1 : Hid (JJ1 LA1.length = LB1.length) := Lib.hid (by rw [← eJJ1, ← eLB1]; exact keptN_end _ _)
    have Jl1 : Hid (∀ k, JJ1 k ≤ LB1.length + LA1.length) := Lib.hid (fun k => by rw [← eJJ1]; have := keptN_le (keepQ (kg : Int) 2) LA1 k; omega)
    have Jy1 : Hid (∀ k y, LA1[k]? = some y → keepQ (kg : Int) 2 y = true → JJ1 (k + 1) = JJ1 k + 1 ∧ LB1[JJ1 k]? = some y) := Lib.hid (fun k y h hf => by rw [← eJJ1, ← eLB1]; exact ⟨keptN_yes h hf, keptN_at h hf⟩)
    have Jx1 : Hid (∀ k y, LA1[k]? = some y → keepQ (kg : Int) 2 y = false → JJ1 (k + 1) = JJ1 k) := Lib.hid (fun k y h hf => by rw [← eJJ1]; exact keptN_no h hf)
    rw [eLB1] at HB1 lb1
    clear eLA1 eLB1 eJJ1
    have HA2 : Hid (∀ W, Below w9.heap.size w9 W → Calls Try.prog 14 #[.agg #[.string (str codem), .slice A1m n1m c1m, .int .i64 tickm, .int .i64 lowm, .int .i64 highm, .int .i64 widem, .int .i64 rulem, .int .i64 topm, .int .i64 leastm, .int .i64 partm, .slice A2m n2m c2m], .slice A5 cn c5, .int .i64 (kk : Int), .int .i64 2] W (AnsQ W.heap.size W (allQ ⟨codem, A1m, n1m, c1m, tickm, lowm, highm, widem, rulem, topm, leastm, partm, A2m, n2m, c2m, Qm, Rm⟩ TL (kk : Int) 2))) := Lib.hid (fun W b => PAll14_any ⟨codem, A1m, n1m, c1m, tickm, lowm, highm, widem, rulem, topm, leastm, partm, A2m, n2m, c2m, Qm, Rm⟩ A5 cn c5 TL (kk : Int) 2 W (Lib.hid (hOk9.out W b)) (Lib.hid (hV9.out W b)) ht2 ⟨by omega, by omega⟩ ⟨by omega, by omega⟩ (by omega))
    have HB2 : Hid (∀ W, Below w9.heap.size w9 W → Calls Try.prog 14 #[.agg #[.string (str codem), .slice A1m n1m c1m, .int .i64 tickm, .int .i64 lowm, .int .i64 highm, .int .i64 widem, .int .i64 rulem, .int .i64 topm, .int .i64 leastm, .int .i64 partm, .slice A2m n2m c2m], .slice (some ⟨gu, 0, none⟩) cn cu, .int .i64 (kk : Int), .int .i64 2] W (AnsQ W.heap.size W ((allQ ⟨codem, A1m, n1m, c1m, tickm, lowm, highm, widem, rulem, topm, leastm, partm, A2m, n2m, c2m, Qm, Rm⟩ TL (kk : Int) 2).filter (keepQ (kg : Int) 2)))) := Lib.hid (fun W b => by rw [← allQ_drop ⟨codem, A1m, n1m, c1m, tickm, lowm, highm, widem, rulem, topm, leastm, partm, A2m, n2m, c2m, Qm, Rm⟩ hx (s := 2) (by omega) (kk : Int) 2]; exact PAll14_any ⟨codem, A1m, n1m, c1m, tickm, lowm, highm, widem, rulem, topm, leastm, partm, A2m, n2m, c2m, Qm, Rm⟩ (some ⟨gu, 0, none⟩) cn cu (TL.set kg (dropX x 2)) (kk : Int) 2 W (Lib.hid (hOk9.out W b)) (Lib.hid (hU9.out W b)) hOkU ⟨by omega, by omega⟩ ⟨by omega, by omega⟩ (by omega))
    have la2 : (allQ ⟨codem, A1m, n1m, c1m, tickm, lowm, highm, widem, rulem, topm, leastm, partm, A2m, n2m, c2m, Qm, Rm⟩ TL (kk : Int) 2).length ≤ 100 := allQ_len
    have lb2 := Lib.hid (List.length_filter_le (keepQ (kg : Int) 2) (allQ ⟨codem, A1m, n1m, c1m, tickm, lowm, highm, widem, rulem, topm, leastm, partm, A2m, n2m, c2m, Qm, Rm⟩ TL (kk : Int) 2))
    obtain ⟨LA2, eLA2⟩ : ∃ l, allQ ⟨codem, A1m, n1m, c1m, tickm, lowm, highm, widem, rulem, topm, leastm, partm, A2m, n2m, c2m, Qm, Rm⟩ TL (kk : Int) 2 = l := ⟨_, rfl⟩
    rw [eLA2] at HA2 HB2 la2 lb2
    obtain ⟨LB2, eLB2⟩ : ∃ l, LA2.filter (keepQ (kg : Int) 2) = l := ⟨_, rfl⟩
    obtain ⟨JJ2, eJJ2⟩ : ∃ f : Nat → Nat, keptN (keepQ (kg : Int) 2) LA2 = f := ⟨_, rfl⟩
    have J02 : Hid (JJ2 0 = 0) := Lib.hid (by rw [← eJJ2]; exact keptN_zero _ _)
    have Je2 : Hid (JJ2 LA2.length = LB2.length) := Lib.hid (by rw [← eJJ2, ← eLB2]; exact keptN_end _ _)
    have Jl2 : Hid (∀ k, JJ2 k ≤ LB2.length + LA2.length) := Lib.hid (fun k => by rw [← eJJ2]; have := keptN_le (keepQ (kg : Int) 2) LA2 k; omega)
    have Jy2 : Hid (∀ k y, LA2[k]? = some y → keepQ (kg : Int) 2 y = true → JJ2 (k + 1) = JJ2 k + 1 ∧ LB2[JJ2 k]? = some y) := Lib.hid (fun k y h hf => by rw [← eJJ2, ← eLB2]; exact ⟨keptN_yes h hf, keptN_at h hf⟩)
    have Jx2 : Hid (∀ k y, LA2[k]? = some y → keepQ (kg : Int) 2 y = false → JJ2 (k + 1) = JJ2 k) := Lib.hid (fun k y h hf => by rw [← eJJ2]; exact keptN_no h hf)
    rw [eLB2] at HB2 lb2
    clear eLA2 eLB2 eJJ2
    have B99 := Lib.hid (Below.refl w9.heap.size w9)
    replace e9w := Lib.hid e9w
    clear hV9 hU9 hOk9 hOkU r8 r9 g8 o8 b58 b59 hgh hcs hgl hm5 hOk5 hV5 own0 hv0 bal hx hxg ht2 ht3 ht4 hk e91 e92 e91' e92' e93' h9' hOwn5 hgb l9 hA5
    go_upto_region 8 with (fail)
    rw [e9w.out]
    clear e9w cv0 fv0
    go_wp2_with fail
    go_loopw [16] (fun iv wr => (iv = .int .i64 1 ∧ Hid (Below w9.heap.size w9 wr)) ∨ (iv = .int .i64 2 ∧ Hid (Below w9.heap.size w9 wr)) ∨ (iv = .int .i64 3 ∧ Hid (Below w9.heap.size w9 wr))) (fun iv _ => (3 - intOf iv).toNat)
    case atStart => exact .inl ⟨rfl, B99⟩
    case round =>
      clear B99
      rcases hrel with ⟨rfl, hB⟩ | ⟨rfl, hB⟩ | ⟨rfl, hB⟩
      · skip
        obtain ⟨k0, k1, k2, k3, k4, k5, k6, k7, k8, k9, k10⟩ := row11 (hm9.out wr hB.out)
        have HA := Lib.hid (HA1.out wr hB.out)
        go_wp2_with fail
        refine HA.out.mono ?_
        rintro e wa ⟨Aa, na, ca, rfl, hva, -, -, -, -, bb⟩
        have Ba := Lib.hid (below_top hB.out bb)
        obtain rfl : na = LA1.length := hva.1.symm
        have hVa : Hid (∀ W, Below wa.heap.size wa W → HV fQt W Aa LA1.length LA1) := Lib.hid (fun W b => hva.below b)
        clear k0 k1 k2 k3 k4 k5 k6 k7 k8 k9 k10 HA hva bb
        obtain ⟨k0, k1, k2, k3, k4, k5, k6, k7, k8, k9, k10⟩ := row11 (hm9.out wa Ba.out)
        have HA := Lib.hid (HB1.out wa Ba.out)
        go_wp2_with fail
        refine HA.out.mono ?_
        rintro e wb ⟨Ab, nb, cb, rfl, hvb, -, -, -, -, bb⟩
        have Bb := Lib.hid (below_top Ba.out bb)
        obtain rfl : nb = LB1.length := hvb.1.symm
        have hVa2 : Hid (∀ W, Below wb.heap.size wb W → HV fQt W Aa LA1.length LA1) := Lib.hid (fun W b => hVa.out _ (below_top bb b))
        have hVb2 : Hid (∀ W, Below wb.heap.size wb W → HV fQt W Ab LB1.length LB1) := Lib.hid (fun W b => hvb.below b)
        have Bb0 := Lib.hid (Below.refl wb.heap.size wb)
        clear k0 k1 k2 k3 k4 k5 k6 k7 k8 k9 k10 HA hvb bb hVa Ba
        have jz0 := J01
        obtain ⟨na, ena⟩ : ∃ x, LA1.length = x := ⟨_, rfl⟩
        obtain ⟨nb, enb⟩ : ∃ x, LB1.length = x := ⟨_, rfl⟩
        have hla := la1
        have hjl := Jl1
        have hje := Je1
        rw [ena] at hVa2 hla hje ⊢
        rw [enb] at hVb2 hje ⊢
        rw [enb] at hjl
        have hex : Hid (∀ k, k < na → ∃ y, LA1[k]? = some y) := Lib.hid (fun k hk => ⟨_, List.getElem?_eq_getElem (by omega)⟩)
        replace ena := Lib.hid ena
        replace enb := Lib.hid enb
        have hlb : nb ≤ na := by have := lb1.out; rw [ena.out, enb.out] at this; exact this
        go_wp2_with fail
        go_loopw [19, 20] (fun jv iv w' => ∃ (k : Nat), iv = .int .i64 (k : Int) ∧ jv = .int .i64 (JJ1 k : Int) ∧ k ≤ na ∧ Hid (Below wb.heap.size wb w')) (fun _ iv _ => na - (intOf iv).toNat)
        case atStart => exact ⟨0, rfl, by rw [jz0.out]; rfl, by omega, Bb0⟩
        case round =>
          clear Bb0
          obtain ⟨k, rfl, rfl, hk, hBi⟩ := hrel
          by_cases hlt : k < na
          · have d1 : decide ((k : Int) < (na : Int)) = true := decide_eq_true (by omega)
            have d3 : (k : Int) < (na : Int) := by omega
            have hk1 : k + 1 ≤ na := by omega
            obtain ⟨y, hy⟩ := hex.out k hlt
            obtain ⟨ba, offa, rfl, y0, y1, y2, y3, y4, y5⟩ := (hVa2.out _ hBi.out).atQ hy
            have hjy := Jy1.out k y hy
            have hjx := Jx1.out k y hy
            have hjlt := hjl.out k
            obtain ⟨yp, yn, yi, ys, yj, yt⟩ := y
            simp only [keepQ] at y0 y1 y2 y3 y4 y5 hjy hjx
            obtain ⟨jj, ejj⟩ : ∃ x, JJ1 k = x := ⟨_, rfl⟩
            rw [ejj] at hjy hjx hjlt ⊢
            have bl : ∀ W : World, (Instr.build 34 #[(0, .int .i64 (kg : Int)), (1, .int .i64 2)]).run Try.prog W = .ok (.agg #[.int .i64 (kg : Int), .int .i64 2]) W := build_legP (kg : Int) 2
            have hl1 : ∀ W : World, (binOp .eql 34 (.agg #[.int .i64 yi, .int .i64 ys]) (.agg #[.int .i64 (kg : Int), .int .i64 2])).run Try.prog W = .ok (.bool (yi == (kg : Int) && ys == 2)) W := eql_leg yi ys (kg : Int) 2
            have hl2 : ∀ W : World, (binOp .eql 34 (.agg #[.int .i64 yj, .int .i64 yt]) (.agg #[.int .i64 (kg : Int), .int .i64 2])).run Try.prog W = .ok (.bool (yj == (kg : Int) && yt == 2)) W := eql_leg yj yt (kg : Int) 2
            have ed1 : (decide (yi = (kg : Int)) && decide (ys = 2)) = (yi == (kg : Int) && ys == 2) := rfl
            have ed2 : (decide (yj = (kg : Int)) && decide (yt = 2)) = (yj == (kg : Int) && yt == 2) := rfl
            rw [ed1, ed2] at hjy hjx
            obtain ⟨q1, eq1⟩ : ∃ b : Bool, (yi == (kg : Int) && ys == 2) = b := ⟨_, rfl⟩
            obtain ⟨q2, eq2⟩ : ∃ b : Bool, (yj == (kg : Int) && yt == 2) = b := ⟨_, rfl⟩
            rw [eq1] at hl1 hjy hjx
            rw [eq2] at hl2 hjy hjx
            replace ejj := Lib.hid ejj
            replace hy := Lib.hid hy
            clear eq1 eq2 ed1 ed2 hlt
            cases q1 with
            | true =>
              have hjn : Hid (Value.int .i64 (jj : Int) = .int .i64 (JJ1 (k + 1) : Int)) := Lib.hid (by rw [hjx rfl])
              clear hjy hjx hl2
              go_wp2_with fail
              go_roundw
              case rel => exact ⟨k + 1, by go_num, hjn.out, hk1, hBi⟩
              case measure => simp [intOf]; omega
            | false =>
            cases q2 with
            | true =>
              have hjn : Hid (Value.int .i64 (jj : Int) = .int .i64 (JJ1 (k + 1) : Int)) := Lib.hid (by rw [hjx rfl])
              clear hjy hjx
              go_wp2_with fail
              go_roundw
              case rel => exact ⟨k + 1, by go_num, hjn.out, hk1, hBi⟩
              case measure => simp [intOf]; omega
            | false =>
              obtain ⟨hjn0, hjat⟩ := hjy rfl
              have hjlt2 : jj < nb := by
                have := (List.getElem?_eq_some_iff.1 hjat).1
                rw [enb.out] at this; exact this
              have hjn : Hid (Value.int .i64 ((jj : Int) + 1) = .int .i64 (JJ1 (k + 1) : Int)) := Lib.hid (by rw [hjn0]; rfl)
              obtain ⟨bb, offb, rfl, x0, x1, x2, x3, x4, x5⟩ := (hVb2.out _ hBi.out).atQ hjat
              simp only at x0 x1 x2 x3 x4 x5
              have hne : ∀ W : World, (binOp .neq 37 (.agg #[.int .i64 yp, .int .i64 yn, .int .i64 yi, .int .i64 ys, .int .i64 yj, .int .i64 yt]) (.agg #[.int .i64 yp, .int .i64 yn, .int .i64 yi, .int .i64 ys, .int .i64 yj, .int .i64 yt])).run Try.prog W = .ok (.bool false) W := fun W => by rw [neq_quote]; simp
              have dj1 : decide ((nb : Int) ≤ (jj : Int)) = false := decide_eq_false (by omega)
              have dj2 : decide (nb ≤ jj) = false := decide_eq_false (by omega)
              have dj3 : decide ((jj : Int) < (nb : Int)) = true := decide_eq_true (by omega)
              have dj4 : (jj : Int) < (nb : Int) := by omega
              clear hjy hjx hjn0 hjat
              go_wp2_with fail
              go_quiet (fail)
              go_wp2_with fail
              go_roundw
              case rel => exact ⟨k + 1, by go_num, hjn.out, hk1, Lib.hid (below_drewN hBi.out _)⟩
              case measure => simp [intOf]; omega
          · obtain rfl : na = k := by omega
            have d1 : decide ((na : Int) < (na : Int)) = false := by simp
            have B10 := Lib.hid (below_top Bb.out hBi.out)
            rw [hje.out]
            have dn : ((nb : Int) != (nb : Int)) = false := by simp
            clear hlt hk
            go_wp2_with fail
            go_roundw
            case rel => exact .inr (.inl ⟨by go_num, B10⟩)
            case measure => simp [intOf]
      · skip
        obtain ⟨k0, k1, k2, k3, k4, k5, k6, k7, k8, k9, k10⟩ := row11 (hm9.out wr hB.out)
        have HA := Lib.hid (HA2.out wr hB.out)
        go_wp2_with fail
        refine HA.out.mono ?_
        rintro e wa ⟨Aa, na, ca, rfl, hva, -, -, -, -, bb⟩
        have Ba := Lib.hid (below_top hB.out bb)
        obtain rfl : na = LA2.length := hva.1.symm
        have hVa : Hid (∀ W, Below wa.heap.size wa W → HV fQt W Aa LA2.length LA2) := Lib.hid (fun W b => hva.below b)
        clear k0 k1 k2 k3 k4 k5 k6 k7 k8 k9 k10 HA hva bb
        obtain ⟨k0, k1, k2, k3, k4, k5, k6, k7, k8, k9, k10⟩ := row11 (hm9.out wa Ba.out)
        have HA := Lib.hid (HB2.out wa Ba.out)
        go_wp2_with fail
        refine HA.out.mono ?_
        rintro e wb ⟨Ab, nb, cb, rfl, hvb, -, -, -, -, bb⟩
        have Bb := Lib.hid (below_top Ba.out bb)
        obtain rfl : nb = LB2.length := hvb.1.symm
        have hVa2 : Hid (∀ W, Below wb.heap.size wb W → HV fQt W Aa LA2.length LA2) := Lib.hid (fun W b => hVa.out _ (below_top bb b))
        have hVb2 : Hid (∀ W, Below wb.heap.size wb W → HV fQt W Ab LB2.length LB2) := Lib.hid (fun W b => hvb.below b)
        have Bb0 := Lib.hid (Below.refl wb.heap.size wb)
        clear k0 k1 k2 k3 k4 k5 k6 k7 k8 k9 k10 HA hvb bb hVa Ba
        have jz0 := J02
        obtain ⟨na, ena⟩ : ∃ x, LA2.length = x := ⟨_, rfl⟩
        obtain ⟨nb, enb⟩ : ∃ x, LB2.length = x := ⟨_, rfl⟩
        have hla := la2
        have hjl := Jl2
        have hje := Je2
        rw [ena] at hVa2 hla hje ⊢
        rw [enb] at hVb2 hje ⊢
        rw [enb] at hjl
        have hex : Hid (∀ k, k < na → ∃ y, LA2[k]? = some y) := Lib.hid (fun k hk => ⟨_, List.getElem?_eq_getElem (by omega)⟩)
        replace ena := Lib.hid ena
        replace enb := Lib.hid enb
        have hlb : nb ≤ na := by have := lb2.out; rw [ena.out, enb.out] at this; exact this
        go_wp2_with fail
        go_loopw [19, 20] (fun jv iv w' => ∃ (k : Nat), iv = .int .i64 (k : Int) ∧ jv = .int .i64 (JJ2 k : Int) ∧ k ≤ na ∧ Hid (Below wb.heap.size wb w')) (fun _ iv _ => na - (intOf iv).toNat)
        case atStart => exact ⟨0, rfl, by rw [jz0.out]; rfl, by omega, Bb0⟩
        case round =>
          clear Bb0
          obtain ⟨k, rfl, rfl, hk, hBi⟩ := hrel
          by_cases hlt : k < na
          · have d1 : decide ((k : Int) < (na : Int)) = true := decide_eq_true (by omega)
            have d3 : (k : Int) < (na : Int) := by omega
            have hk1 : k + 1 ≤ na := by omega
            obtain ⟨y, hy⟩ := hex.out k hlt
            obtain ⟨ba, offa, rfl, y0, y1, y2, y3, y4, y5⟩ := (hVa2.out _ hBi.out).atQ hy
            have hjy := Jy2.out k y hy
            have hjx := Jx2.out k y hy
            have hjlt := hjl.out k
            obtain ⟨yp, yn, yi, ys, yj, yt⟩ := y
            simp only [keepQ] at y0 y1 y2 y3 y4 y5 hjy hjx
            obtain ⟨jj, ejj⟩ : ∃ x, JJ2 k = x := ⟨_, rfl⟩
            rw [ejj] at hjy hjx hjlt ⊢
            have bl : ∀ W : World, (Instr.build 34 #[(0, .int .i64 (kg : Int)), (1, .int .i64 2)]).run Try.prog W = .ok (.agg #[.int .i64 (kg : Int), .int .i64 2]) W := build_legP (kg : Int) 2
            have hl1 : ∀ W : World, (binOp .eql 34 (.agg #[.int .i64 yi, .int .i64 ys]) (.agg #[.int .i64 (kg : Int), .int .i64 2])).run Try.prog W = .ok (.bool (yi == (kg : Int) && ys == 2)) W := eql_leg yi ys (kg : Int) 2
            have hl2 : ∀ W : World, (binOp .eql 34 (.agg #[.int .i64 yj, .int .i64 yt]) (.agg #[.int .i64 (kg : Int), .int .i64 2])).run Try.prog W = .ok (.bool (yj == (kg : Int) && yt == 2)) W := eql_leg yj yt (kg : Int) 2
            have ed1 : (decide (yi = (kg : Int)) && decide (ys = 2)) = (yi == (kg : Int) && ys == 2) := rfl
            have ed2 : (decide (yj = (kg : Int)) && decide (yt = 2)) = (yj == (kg : Int) && yt == 2) := rfl
            rw [ed1, ed2] at hjy hjx
            obtain ⟨q1, eq1⟩ : ∃ b : Bool, (yi == (kg : Int) && ys == 2) = b := ⟨_, rfl⟩
            obtain ⟨q2, eq2⟩ : ∃ b : Bool, (yj == (kg : Int) && yt == 2) = b := ⟨_, rfl⟩
            rw [eq1] at hl1 hjy hjx
            rw [eq2] at hl2 hjy hjx
            replace ejj := Lib.hid ejj
            replace hy := Lib.hid hy
            clear eq1 eq2 ed1 ed2 hlt
            cases q1 with
            | true =>
              have hjn : Hid (Value.int .i64 (jj : Int) = .int .i64 (JJ2 (k + 1) : Int)) := Lib.hid (by rw [hjx rfl])
              clear hjy hjx hl2
              go_wp2_with fail
              go_roundw
              case rel => exact ⟨k + 1, by go_num, hjn.out, hk1, hBi⟩
              case measure => simp [intOf]; omega
            | false =>
            cases q2 with
            | true =>
              have hjn : Hid (Value.int .i64 (jj : Int) = .int .i64 (JJ2 (k + 1) : Int)) := Lib.hid (by rw [hjx rfl])
              clear hjy hjx
              go_wp2_with fail
              go_roundw
              case rel => exact ⟨k + 1, by go_num, hjn.out, hk1, hBi⟩
              case measure => simp [intOf]; omega
            | false =>
              obtain ⟨hjn0, hjat⟩ := hjy rfl
              have hjlt2 : jj < nb := by
                have := (List.getElem?_eq_some_iff.1 hjat).1
                rw [enb.out] at this; exact this
              have hjn : Hid (Value.int .i64 ((jj : Int) + 1) = .int .i64 (JJ2 (k + 1) : Int)) := Lib.hid (by rw [hjn0]; rfl)
              obtain ⟨bb, offb, rfl, x0, x1, x2, x3, x4, x5⟩ := (hVb2.out _ hBi.out).atQ hjat
              simp only at x0 x1 x2 x3 x4 x5
              have hne : ∀ W : World, (binOp .neq 37 (.agg #[.int .i64 yp, .int .i64 yn, .int .i64 yi, .int .i64 ys, .int .i64 yj, .int .i64 yt]) (.agg #[.int .i64 yp, .int .i64 yn, .int .i64 yi, .int .i64 ys, .int .i64 yj, .int .i64 yt])).run Try.prog W = .ok (.bool false) W := fun W => by rw [neq_quote]; simp
              have dj1 : decide ((nb : Int) ≤ (jj : Int)) = false := decide_eq_false (by omega)
              have dj2 : decide (nb ≤ jj) = false := decide_eq_false (by omega)
              have dj3 : decide ((jj : Int) < (nb : Int)) = true := decide_eq_true (by omega)
              have dj4 : (jj : Int) < (nb : Int) := by omega
              clear hjy hjx hjn0 hjat
              go_wp2_with fail
              go_quiet (fail)
              go_wp2_with fail
              go_roundw
              case rel => exact ⟨k + 1, by go_num, hjn.out, hk1, Lib.hid (below_drewN hBi.out _)⟩
              case measure => simp [intOf]; omega
          · obtain rfl : na = k := by omega
            have d1 : decide ((na : Int) < (na : Int)) = false := by simp
            have B10 := Lib.hid (below_top Bb.out hBi.out)
            rw [hje.out]
            have dn : ((nb : Int) != (nb : Int)) = false := by simp
            clear hlt hk
            go_wp2_with fail
            go_roundw
            case rel => exact .inr (.inr ⟨by go_num, B10⟩)
            case measure => simp [intOf]
      · have Bf := Lib.hid (below_top B9.out hB.out)
        go_wp2_with fail
        refine (Known_any _).mono ?_
        rintro e wk ⟨rfl, bb⟩
        have Bk := Lib.hid (below_top Bf.out bb)
        clear bb
        go_wp2_with fail
        go_ret
        exact ⟨rfl, Bk.out⟩
end Go.Proofs.Ytdeofifidjbolaa
