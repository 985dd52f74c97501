/-
  The walk of the law ImpliedMirror.
-/
import Derived.Test.YtdeofifidjbolaaIpTells
import Derived.Test.YtdeofifidjbolaaIpKeep2
import Derived.Test.YtdeofifidjbolaaIpNumP
import Derived.Test.YtdeofifidjbolaaIpMirL
import Derived.Deep.QuietTactic
import Derived.BigQuiet
namespace Go.Proofs.Ytdeofifidjbolaa
open Go.RowKit
set_option linter.unusedVariables false
set_option linter.unusedSimpArgs false

set_option maxRecDepth 100000 in
set_option maxHeartbeats 8000000 in
theorem IMirror_walk (p : PD) (A : Option Addr) (n cap : Nat) (L : List Tp) (inst : Int) (w : World) (h : Hid (p.Fit w)) (hA : Hid (HV fTp w A n L)) (hok : Hid (OkT L)) (hl : n ≤ cap) (hcap : cap ≤ 9223372036854775807) (i1 : -9223372036854775808 ≤ inst) (i2 : inst ≤ 9223372036854775807) :
    Calls Try.prog 7 #[p.val, .slice A n cap, .int .i64 inst] w fun e w' => e = .returned (.bool true) ∧ Below w.heap.size w w' := by
  have HK : Hid (∀ W, Below w.heap.size w W → Calls Try.prog 17 #[p.val] W fun e w' => ∃ P : PD, e = .returned P.val ∧ P.Keep ∧ P.Keep2 ∧ P.Ok w' ∧ Below W.heap.size W w') := Lib.hid (fun W b => KProd14b p W (Lib.hid (h.out.below b)))
  clear h
  obtain ⟨code, A1, n1, c1, tick, low, high, wide, rule, top, least, part, A2, n2, c2, Q, R⟩ := p
  replace HK : Hid (∀ W, Below w.heap.size w W → Calls Try.prog 17 #[.agg #[.string (str code), .slice A1 n1 c1, .int .i64 tick, .int .i64 low, .int .i64 high, .int .i64 wide, .int .i64 rule, .int .i64 top, .int .i64 least, .int .i64 part, .slice A2 n2 c2]] W fun e w' => ∃ P : PD, e = .returned P.val ∧ P.Keep ∧ P.Keep2 ∧ P.Ok w' ∧ Below W.heap.size W w') := HK
  show Calls Try.prog 7 #[.agg #[.string (str code), .slice A1 n1 c1, .int .i64 tick, .int .i64 low, .int .i64 high, .int .i64 wide, .int .i64 rule, .int .i64 top, .int .i64 least, .int .i64 part, .slice A2 n2 c2], .slice A n cap, .int .i64 inst] w _
  obtain ⟨W0, eW0⟩ : ∃ W0, w.alloc (.cells #[.string (str code), .slice A1 n1 c1, .int .i64 tick, .int .i64 low, .int .i64 high, .int .i64 wide, .int .i64 rule, .int .i64 top, .int .i64 least, .int .i64 part, .slice A2 n2 c2] 25) = W0 := ⟨_, rfl⟩
  obtain ⟨pb, epb⟩ : ∃ pb, w.heap.size = pb := ⟨_, rfl⟩
  have hblk0 : Hid (W0.heap[pb]? = some (.cells #[.string (str code), .slice A1 n1 c1, .int .i64 tick, .int .i64 low, .int .i64 high, .int .i64 wide, .int .i64 rule, .int .i64 top, .int .i64 least, .int .i64 part, .slice A2 n2 c2] 25 (0, 0))) := Lib.hid (by rw [← eW0, ← epb]; exact heap_alloc_new w _)
  have hB0 : Hid (Below w.heap.size w W0) := Lib.hid (by rw [← eW0]; exact (Below.refl _ w).alloc (Nat.le_refl _) _)
  replace eW0 := Lib.hid eW0
  replace epb := Lib.hid epb
  go_enter Try.func7, Try.ntmps7
  obtain ⟨k0, k1, k2, k3, k4, k5, k6, k7, k8, k9, k10⟩ := row11 hblk0.out
  go_upto_region 1 with (fail)
  rw [eW0.out, epb.out]
  clear eW0
  go_wp2_with fail
  refine (HK.out W0 hB0.out).mono ?_
  clear HK
  rintro e w3 ⟨P, rfl, pk, pk2, pok, b3⟩
  have hB3 := Lib.hid (below_top hB0.out b3)
  clear k0 k1 k2 k3 k4 k5 k6 k7 k8 k9 k10 hblk0 hB0 b3
  obtain ⟨codem, A1m, n1m, c1m, tickm, lowm, highm, widem, rulem, topm, leastm, partm, A2m, n2m, c2m, Qm, Rm⟩ := P
  rw [show PD.val ⟨codem, A1m, n1m, c1m, tickm, lowm, highm, widem, rulem, topm, leastm, partm, A2m, n2m, c2m, Qm, Rm⟩ = .agg #[.string (str codem), .slice A1m n1m c1m, .int .i64 tickm, .int .i64 lowm, .int .i64 highm, .int .i64 widem, .int .i64 rulem, .int .i64 topm, .int .i64 leastm, .int .i64 partm, .slice A2m n2m c2m] from rfl]
  obtain ⟨mb, emb⟩ : ∃ x, w3.heap.size = x := ⟨_, rfl⟩
  obtain ⟨W4, eW4⟩ : ∃ W, w3.alloc (.cells #[.string (str codem), .slice A1m n1m c1m, .int .i64 tickm, .int .i64 lowm, .int .i64 highm, .int .i64 widem, .int .i64 rulem, .int .i64 topm, .int .i64 leastm, .int .i64 partm, .slice A2m n2m c2m] 25) = W := ⟨_, rfl⟩
  have b34 : Below w3.heap.size w3 W4 := by rw [← eW4]; exact (Below.refl _ w3).alloc (Nat.le_refl _) _
  have hmb : W4.heap[mb]? = some (.cells #[.string (str codem), .slice A1m n1m c1m, .int .i64 tickm, .int .i64 lowm, .int .i64 highm, .int .i64 widem, .int .i64 rulem, .int .i64 topm, .int .i64 leastm, .int .i64 partm, .slice A2m n2m c2m] 25 (0, 0)) := by rw [← eW4, ← emb]; exact heap_alloc_new w3 _
  have hm4 : Hid (∀ W, Below W4.heap.size W4 W → W.heap[mb]? = some (.cells #[.string (str codem), .slice A1m n1m c1m, .int .i64 tickm, .int .i64 lowm, .int .i64 highm, .int .i64 widem, .int .i64 rulem, .int .i64 topm, .int .i64 leastm, .int .i64 partm, .slice A2m n2m c2m] 25 (0, 0))) := Lib.hid (fun W b => pd_blk' hmb b)
  have hB4 := Lib.hid (below_top hB3.out b34)
  have hOk4 : Hid (∀ W, Below W4.heap.size W4 W → PD.Ok ⟨codem, A1m, n1m, c1m, tickm, lowm, highm, widem, rulem, topm, leastm, partm, A2m, n2m, c2m, Qm, Rm⟩ W) := Lib.hid (fun W b => (pok.below b34).below b)
  have hk := Lib.hid pk
  have hk2 := Lib.hid pk2
  replace eW4 := Lib.hid eW4
  replace emb := Lib.hid emb
  have hOk3 : Hid (∀ W, Below w3.heap.size w3 W → PD.Ok ⟨codem, A1m, n1m, c1m, tickm, lowm, highm, widem, rulem, topm, leastm, partm, A2m, n2m, c2m, Qm, Rm⟩ W) := Lib.hid (fun W b => pok.below b)
  have hb34 := Lib.hid b34
  clear pk pk2 pok b34 hmb
  obtain ⟨i0, hi0, hz0, hz1, hz2⟩ := info_parts info_kt
  obtain ⟨j0, hj0, hy0, hy1, hy2⟩ := info_parts info_l
  have hh1 : 0 ≤ highm := hk.out.h1
  have hh2 : highm ≤ 1000 := hk.out.h2
  obtain ⟨lom, elom⟩ : ∃ z, -highm = z := ⟨_, rfl⟩
  have lo1 : lom ≤ 0 := by omega
  have lo2 : -1000 ≤ lom := by omega
  have hmb0 := hm4.out W4 (Below.refl _ _)
  have elom' := elom
  -- Low
  have hs3 : (W4.setCell ⟨mb, 3, none⟩ (.int .i64 lom)).heap[mb]? = some (.cells #[.string (str codem), .slice A1m n1m c1m, .int .i64 tickm, .int .i64 lom, .int .i64 highm, .int .i64 widem, .int .i64 rulem, .int .i64 topm, .int .i64 leastm, .int .i64 partm, .slice A2m n2m c2m] 25 (0, 0)) := heap_setCell_same W4 mb 3 _ 25 (.int .i64 lom) hmb0
  have fz3 := Lib.frozen_of_heap hmb0 3
  obtain ⟨W5, eW5⟩ : ∃ W, W4.setCell ⟨mb, 3, none⟩ (.int .i64 lom) = W := ⟨_, rfl⟩
  rw [eW5] at hs3
  have on5 : Only (fun k => k = mb) W4 W5 := by rw [← eW5]; exact set_only W4 mb 3 _
  obtain ⟨k0, k1, k2, k3, k4, k5, k6, k7, k8, k9, k10⟩ := row11 hmb0
  replace eW5 := Lib.hid eW5
  replace hs3 := Lib.hid hs3
  replace on5 := Lib.hid on5
  go_upto_region 2 with (fail)
  rw [eW4.out, emb.out]
  clear hmb0
  go_upto_region 3 with (fail)
  (try rw [eW5.out])
  clear k0 k1 k2 k3 k4 k5 k6 k7 k8 k9 k10 fz3 eW5 elom'
  replace elom := Lib.hid elom
  obtain ⟨k0, k1, k2, k3, k4, k5, k6, k7, k8, k9, k10⟩ := row11 hs3.out
  have hnp : n1m ≤ 1000 := by have := hk.out.cnt.2.1; have h6 : n1m ≤ 6 := this; omega
  go_wp2_with (at_make; refine wpList_make_full _ (by rfl) (.tmp 32) (.tmp 32) 23 (by rfl) W5.heap.size 2 j0 (.int .i64 0) 1 Try.underlying23 hj0 hy0 hy1 .i64 .i64 _ _ n1m (by rfl) (by rfl) rfl rfl (by rw [hy2]; omega) (by unfold maxLen; omega) (Nat.le_refl _) ?_)
  intro W6 r6 g6
  have b56 : Below W5.heap.size W5 W6 := (Below.refl _ W5).grown g6 (Nat.le_refl _) (fun k e => by cases e)
  obtain ⟨gs, egs⟩ : ∃ x, W5.heap.size = x := ⟨_, rfl⟩
  rw [egs] at r6
  have hs6 := (b56.block mb (Array.getElem?_eq_some_iff.1 hs3.out).1).trans hs3.out
  have hms : mb < gs := by rw [← egs]; exact (Array.getElem?_eq_some_iff.1 hs3.out).1
  have hs7 : (W6.setCell ⟨mb, 10, none⟩ (.slice (some ⟨gs, 0, none⟩) n1m n1m)).heap[mb]? = some (.cells #[.string (str codem), .slice A1m n1m c1m, .int .i64 tickm, .int .i64 lom, .int .i64 highm, .int .i64 widem, .int .i64 rulem, .int .i64 topm, .int .i64 leastm, .int .i64 partm, .slice (some ⟨gs, 0, none⟩) n1m n1m] 25 (0, 0)) := heap_setCell_same W6 mb 10 _ 25 (.slice (some ⟨gs, 0, none⟩) n1m n1m) hs6
  have fz10 := Lib.frozen_of_heap hs6 10
  have c10 : W6.cell? ⟨mb, 10, none⟩ = some (.slice A2m n2m c2m) := (row11 hs6).2.2.2.2.2.2.2.2.2.2
  have on7 := set_only W6 mb 10 (.slice (some ⟨gs, 0, none⟩) n1m n1m)
  have r7 := row_only r6 on7 (fun k hk e => by have hk' : gs = k := Option.some.inj hk; omega)
  obtain ⟨W7, eW7⟩ : ∃ W, W6.setCell ⟨mb, 10, none⟩ (.slice (some ⟨gs, 0, none⟩) n1m n1m) = W := ⟨_, rfl⟩
  rw [eW7] at hs7 on7 r7
  have hmb3 : w3.heap.size = mb := emb.out
  have b37 : Below w3.heap.size w3 W7 := by
    have x1 : Below w3.heap.size w3 W4 := hb34.out
    have x2 : Below w3.heap.size W4 W5 := on5.out.below x1.size (fun k hk e => by omega)
    have x3 : Below w3.heap.size W5 W6 := b56.mono (Nat.le_trans x1.size x2.size)
    have x4 : Below w3.heap.size W6 W7 := on7.below (Nat.le_trans (Nat.le_trans x1.size x2.size) x3.size) (fun k hk e => by omega)
    exact ((x1.trans x2).trans x3).trans x4
  have hB7 := Lib.hid (below_top hB3.out b37)
  have nums7 : Nums W7 (some ⟨gs, 0, none⟩) n1m (fun _ => 0) := nums_own (by rw [made_zero] at r7; exact r7) (fun _ _ => ⟨by decide, by decide⟩)
  have okm := hOk3.out W7 b37
  have okx : PD.Ok ⟨codem, A1m, n1m, c1m, tickm, lom, highm, widem, rulem, topm, leastm, partm, some ⟨gs, 0, none⟩, n1m, n1m, Qm, fun _ => 0⟩ W7 := ⟨okm.months, nums7, okm.code, okm.l1, okm.m1, Nat.le_refl _, by show n1m ≤ _; omega, okm.tick, ⟨by show _ ≤ lom; omega, by show lom ≤ _; omega⟩, okm.high, okm.wide, okm.rule, okm.top, okm.least, okm.part⟩
  have hkx : Hid (PD.Keep ⟨codem, A1m, n1m, c1m, tickm, lom, highm, widem, rulem, topm, leastm, partm, some ⟨gs, 0, none⟩, n1m, n1m, Qm, fun _ => 0⟩) := Lib.hid ⟨by have := hk2.out.mir (some ⟨gs, 0, none⟩) n1m; rw [← elom.out]; exact this, hk.out.t1, hk.out.t2, hk.out.h1, hk.out.h2, rfl⟩
  have hOk7 : Hid (∀ W, Below W7.heap.size W7 W → PD.Ok ⟨codem, A1m, n1m, c1m, tickm, lom, highm, widem, rulem, topm, leastm, partm, some ⟨gs, 0, none⟩, n1m, n1m, Qm, fun _ => 0⟩ W) := Lib.hid (fun W b => okx.below b)
  have hm7 : Hid (∀ W, Below W7.heap.size W7 W → W.heap[mb]? = some (.cells #[.string (str codem), .slice A1m n1m c1m, .int .i64 tickm, .int .i64 lom, .int .i64 highm, .int .i64 widem, .int .i64 rulem, .int .i64 topm, .int .i64 leastm, .int .i64 partm, .slice (some ⟨gs, 0, none⟩) n1m n1m] 25 (0, 0))) := Lib.hid (fun W b => pd_blk' hs7 b)
  have hlom : Hid (lom = -highm) := Lib.hid elom.out.symm
  replace egs := Lib.hid egs
  replace eW7 := Lib.hid eW7
  clear b56 r6 g6 hs6 hs7 on7 r7 nums7 okm okx b37 hmb3 hk2 hk hOk3 hb34 hm4 hOk4 hB4 hB3 hs3 on5
  go_upto_region 4 with (fail)
  (try rw [egs.out])
  (try rw [eW7.out])
  clear fz10 c10 k0 k1 k2 k3 k4 k5 k6 k7 k8 k9 k10 egs elom
  have hlx : L.length = n := hA.out.1
  have HT : Hid (Calls Try.prog 18 #[.agg #[.string (str codem), .slice A1m n1m c1m, .int .i64 tickm, .int .i64 lom, .int .i64 highm, .int .i64 widem, .int .i64 rulem, .int .i64 topm, .int .i64 leastm, .int .i64 partm, .slice (some ⟨gs, 0, none⟩) n1m n1m], .slice A n cap] W7 (GaveT 31 W7 (topsL tickm (cntL ⟨codem, A1m, n1m, c1m, tickm, lom, highm, widem, rulem, topm, leastm, partm, some ⟨gs, 0, none⟩, n1m, n1m, Qm, fun _ => 0⟩) L))) := Lib.hid (Tops_any ⟨codem, A1m, n1m, c1m, tickm, lom, highm, widem, rulem, topm, leastm, partm, some ⟨gs, 0, none⟩, n1m, n1m, Qm, fun _ => 0⟩ A n cap L W7 (Lib.hid (hOk7.out W7 (Below.refl _ _))) hkx.out.t1 (by have := hkx.out.t2; omega) (Lib.hid (hA.out.below hB7.out)) hok (by omega))
  have ht1 := topsL_len tickm (cntL ⟨codem, A1m, n1m, c1m, tickm, lom, highm, widem, rulem, topm, leastm, partm, some ⟨gs, 0, none⟩, n1m, n1m, Qm, fun _ => 0⟩) L
  have ht2 : OkT (topsL tickm (cntL ⟨codem, A1m, n1m, c1m, tickm, lom, highm, widem, rulem, topm, leastm, partm, some ⟨gs, 0, none⟩, n1m, n1m, Qm, fun _ => 0⟩) L) := topsL_ok hkx.out.t1 (by have := hkx.out.t2; omega)
  have ht3 : ∀ y ∈ topsL tickm (cntL ⟨codem, A1m, n1m, c1m, tickm, lom, highm, widem, rulem, topm, leastm, partm, some ⟨gs, 0, none⟩, n1m, n1m, Qm, fun _ => 0⟩) L, y.Near := topsL_near hkx.out.t1 (by have := hkx.out.t2; omega)
  have ht4 : ∀ y ∈ topsL tickm (cntL ⟨codem, A1m, n1m, c1m, tickm, lom, highm, widem, rulem, topm, leastm, partm, some ⟨gs, 0, none⟩, n1m, n1m, Qm, fun _ => 0⟩) L, y.Some0 := topsL_some
  obtain ⟨c1', c2', c3', c4', c5'⟩ := hkx.out.cnt
  obtain ⟨cn, hcn⟩ : ∃ c, cntL ⟨codem, A1m, n1m, c1m, tickm, lom, highm, widem, rulem, topm, leastm, partm, some ⟨gs, 0, none⟩, n1m, n1m, Qm, fun _ => 0⟩ = c := ⟨_, rfl⟩
  obtain ⟨TL, hTL⟩ : ∃ c, topsL tickm (cntL ⟨codem, A1m, n1m, c1m, tickm, lom, highm, widem, rulem, topm, leastm, partm, some ⟨gs, 0, none⟩, n1m, n1m, Qm, fun _ => 0⟩) L = c := ⟨_, rfl⟩
  rw [hTL] at HT ht1 ht2 ht3 ht4
  rw [hcn] at ht1 c3' c4' c5'
  replace c1' : 2 ≤ n1m := c1'
  replace c2' : n1m ≤ 6 := c2'
  replace c3' : n1m ≤ cn := c3'
  replace hcn := Lib.hid hcn
  replace ht2 := Lib.hid ht2
  replace ht3 := Lib.hid ht3
  replace ht4 := Lib.hid ht4
  clear hTL hlx hA hok
  obtain ⟨k0, k1, k2, k3, k4, k5, k6, k7, k8, k9, k10⟩ := row11 (hm7.out W7 (Below.refl _ _))
  clear eW7
  go_wp2_with fail
  refine HT.out.mono ?_
  rintro e w5 ⟨v5, rfl, ro, b5⟩
  have hOwn5 := ro
  obtain ⟨A5, c5, rfl, hv5, hn5, hc5, hA5, -⟩ := ro.slice
  rw [ht1] at hv5 hn5 ⊢
  have hB5 := Lib.hid (below_top hB7.out b5)
  have hm5 : Hid (∀ W, Below w5.heap.size w5 W → W.heap[mb]? = some (.cells #[.string (str codem), .slice A1m n1m c1m, .int .i64 tickm, .int .i64 lom, .int .i64 highm, .int .i64 widem, .int .i64 rulem, .int .i64 topm, .int .i64 leastm, .int .i64 partm, .slice (some ⟨gs, 0, none⟩) n1m n1m] 25 (0, 0))) := Lib.hid (fun W b => hm7.out W (below_top b5 b))
  have hOk5 : Hid (∀ W, Below w5.heap.size w5 W → PD.Ok ⟨codem, A1m, n1m, c1m, tickm, lom, highm, widem, rulem, topm, leastm, partm, some ⟨gs, 0, none⟩, n1m, n1m, Qm, fun _ => 0⟩ W) := Lib.hid (fun W b => hOk7.out W (below_top b5 b))
  have hV5 : Hid (∀ W, Below w5.heap.size w5 W → HV fTp W A5 cn TL) := Lib.hid (fun W b => hv5.below b)
  replace hOwn5 := Lib.hid hOwn5
  replace hA5 := Lib.hid hA5
  clear k0 k1 k2 k3 k4 k5 k6 k7 k8 k9 k10 HT ro b5 hv5 hm7 hOk7 hB7
  -- the turned tops
  go_wp2_with (at_make; refine wpList_make_full _ (by rfl) (.tmp 39) (.tmp 39) 27 (by rfl) w5.heap.size 31 i0 (.agg #[.bool false, .bool false, .int .i64 0, .int .i64 0, .int .i64 0, .int .i64 0]) 6 Try.underlying27 hi0 hz0 hz1 .i64 .i64 _ _ cn (by rfl) (by rfl) rfl rfl (by rw [hz2]; omega) (by unfold maxLen; omega) (Nat.le_refl _) ?_)
  intro w8 r8 g8
  have b58 : Below w5.heap.size w5 w8 := (Below.refl _ w5).grown g8 (Nat.le_refl _) (fun k e => by cases e)
  have hFl : (TL.map turnX).length = cn := by rw [List.length_map, ht1]
  have hFg : Hid (∀ i x, TL[i]? = some x → (TL.map turnX)[i]? = some (turnX x)) := Lib.hid (fun i x hx => by rw [List.getElem?_map, hx]; rfl)
  have hFe : Hid (curT (TL.map turnX) cn cn = TL.map turnX) := Lib.hid (by unfold curT; rw [List.take_of_length_le (by omega), Nat.sub_self]; simp)
  have okU : Hid (OkT (TL.map turnX)) := Lib.hid (fun y hy => by
    obtain ⟨x, hx, rfl⟩ := List.mem_map.1 hy
    have a := ht2.out x hx
    obtain ⟨n0, n1'⟩ := ht3.out x hx
    exact ⟨⟨by show _ ≤ -x.p1; omega, by show -x.p1 ≤ _; omega⟩, ⟨by show _ ≤ -x.p0; omega, by show -x.p0 ≤ _; omega⟩, a.q1, a.q0⟩)
  obtain ⟨gu, egu⟩ : ∃ x, w5.heap.size = x := ⟨_, rfl⟩
  have R0 : Hid (Own fTp 31 w8 gu (.slice (some ⟨gu, 0, none⟩) cn cn) (curT (TL.map turnX) cn 0)) := Lib.hid (by
    rw [curT_zero, ← egu]
    unfold Own
    rw [List.length_replicate, ← made_tops]
    exact r8)
  obtain ⟨FU, eFU⟩ : ∃ l, TL.map turnX = l := ⟨_, rfl⟩
  rw [eFU] at hFl hFg hFe okU R0
  have C0 : Hid (Below gu w5 w8) := Lib.hid (by rw [← egu]; exact b58)
  have h5u : Hid (∀ W, Below gu w5 W → Below w5.heap.size w5 W) := Lib.hid (fun W b => by rw [egu]; exact b)
  have hex : Hid (∀ k, k < cn → ∃ x, TL[k]? = some x) := Lib.hid (fun k hk => ⟨_, List.getElem?_eq_getElem (by omega)⟩)
  replace eFU := Lib.hid eFU
  replace egu := Lib.hid egu
  clear r8 g8 b58
  go_upto_region 6 with (fail)
  rw [egu.out]
  go_wp2_with fail
  go_loopw [10] (fun iv wr => ∃ k : Nat, iv = .int .i64 (k : Int) ∧ k ≤ cn ∧ Hid (Own fTp 31 wr gu (.slice (some ⟨gu, 0, none⟩) cn cn) (curT FU cn k)) ∧ Hid (Below gu w5 wr)) (fun iv _ => cn - (intOf iv).toNat)
  case atStart => exact ⟨0, rfl, by omega, R0, C0⟩
  case round =>
    clear R0 C0
    obtain ⟨k, rfl, hk, hR, hB⟩ := hrel
    by_cases hlt : k < cn
    · have d1 : decide ((k : Int) < (cn : Int)) = true := decide_eq_true (by omega)
      have d3 : (k : Int) < (cn : Int) := by omega
      obtain ⟨x, hx⟩ := hex.out k hlt
      have hFk := hFg.out k x hx
      obtain ⟨xn0, xn1⟩ := ht3.out x (List.mem_of_getElem? hx)
      obtain ⟨b, off, rfl, x0, x1, x2, x3, x4, x5⟩ := (hV5.out _ (h5u.out _ hB.out)).atT hx
      have hml := curT_len hFl hk
      obtain ⟨g', cap', cur, ev, -, hgl, hgh, -, -, hcs, -⟩ := hR.out.open' (by omega)
      rw [hml] at ev
      injection ev with ev1 ev2 ev3
      injection ev1 with ev1
      injection ev1 with ev1
      subst ev1; subst ev3
      have hcs6 : cur.size = cn * 6 := hcs
      have hgk := curT_get hFl hlt
      obtain ⟨xa, xb, xc, xd, xe, xf⟩ := x
      simp only at x0 x1 x2 x3 x4 x5 xn0 xn1
      obtain ⟨nc, enc⟩ : ∃ z, -xc = z := ⟨_, rfl⟩
      obtain ⟨nd, end'⟩ : ∃ z, -xd = z := ⟨_, rfl⟩
      have hR6 := hR.out.top6 hgk xb xa nd nc xf xe
      obtain ⟨f0, f1, f2, f3, f4, f5, ⟨y0, q0⟩, ⟨y1, q1⟩, ⟨y2, q2⟩, ⟨y3, q3⟩, ⟨y4, q4⟩, ⟨y5, q5⟩⟩ := set6k (k * 6) (.bool xb) (.bool xa) (.int .i64 nd) (.int .i64 nc) (.int .i64 xf) (.int .i64 xe) hgh (by omega)
      have hset : (curT FU cn k).set k ⟨xb, xa, nd, nc, xf, xe⟩ = curT FU cn (k + 1) := by rw [← end', ← enc]; exact curT_set hFl hlt hFk
      rw [hset] at hR6
      have ob := (((((((set_only wr gu (k * 6) (.bool xb)).trans (set_only _ gu (k * 6 + 1) (.bool xa))).trans (set_only _ gu (k * 6 + 2) (.int .i64 nd))).trans (set_only _ gu (k * 6 + 3) (.int .i64 nc))).trans (set_only _ gu (k * 6 + 4) (.int .i64 xf))).trans (set_only _ gu (k * 6 + 5) (.int .i64 xe))).below (B := gu) (by omega) (fun k hk e => by omega))
      obtain ⟨W9, eW9⟩ : ∃ W, ((((((wr.setCell ⟨gu, k * 6, none⟩ (.bool xb)).setCell ⟨gu, k * 6 + 1, none⟩ (.bool xa)).setCell ⟨gu, k * 6 + 2, none⟩ (.int .i64 nd)).setCell ⟨gu, k * 6 + 3, none⟩ (.int .i64 nc)).setCell ⟨gu, k * 6 + 4, none⟩ (.int .i64 xf)).setCell ⟨gu, k * 6 + 5, none⟩ (.int .i64 xe)).drew = W := ⟨_, rfl⟩
      have hR9 : Hid (Own fTp 31 W9 gu (.slice (some ⟨gu, 0, none⟩) cn cn) (curT FU cn (k + 1))) := Lib.hid (by rw [← eW9]; exact hR6.below (Below.refl _ _).drew)
      have hB9 : Hid (Below gu w5 W9) := Lib.hid (by rw [← eW9]; exact (hB.out.trans ob).drew)
      have wc : IntKind.i64.wrap (-xc) = nc := by rw [enc]; exact wrap_in (by omega) (by omega)
      have wd : IntKind.i64.wrap (-xd) = nd := by rw [end']; exact wrap_in (by omega) (by omega)
      have bl1 := build_two xb xa
      have bl2 := build_longs nd nc
      have bl3 := build_longs xf xe
      have bl4 := build_whole xb xa nd nc xf xe
      have hk1 : k + 1 ≤ cn := hlt
      replace enc := Lib.hid enc
      replace end' := Lib.hid end'
      replace eW9 := Lib.hid eW9
      have hSk : Hid (∀ W, Below gu w5 W → (fun W : World => W.cell? ⟨b, off + k * 6, none⟩ = some (.bool xa) ∧ W.cell? ⟨b, off + k * 6 + 1, none⟩ = some (.bool xb) ∧ W.cell? ⟨b, off + k * 6 + 2, none⟩ = some (.int .i64 xc) ∧ W.cell? ⟨b, off + k * 6 + 3, none⟩ = some (.int .i64 xd) ∧ W.cell? ⟨b, off + k * 6 + 4, none⟩ = some (.int .i64 xe) ∧ W.cell? ⟨b, off + k * 6 + 5, none⟩ = some (.int .i64 xf)) W) := Lib.hid (fun W bw => by
        obtain ⟨b', off', e', x0, x1, x2, x3, x4, x5⟩ := (hV5.out _ (h5u.out _ bw)).atT hx
        injection e' with e'
        injection e' with e1 e2
        subst e1; subst e2
        exact ⟨x0, x1, x2, x3, x4, x5⟩)
      replace hx := Lib.hid hx
      replace hFk := Lib.hid hFk
      have hBd := Lib.hid hB.out.drew
      clear hgh hcs ev2 hml hgl hgk hR6 ob hset hR hB xn0 xn1
      go_wp2_with fail
      have z0 : (fun W : World => W.cell? ⟨b, off + k * 6, none⟩ = some (.bool xa) ∧ W.cell? ⟨b, off + k * 6 + 1, none⟩ = some (.bool xb) ∧ W.cell? ⟨b, off + k * 6 + 2, none⟩ = some (.int .i64 xc) ∧ W.cell? ⟨b, off + k * 6 + 3, none⟩ = some (.int .i64 xd) ∧ W.cell? ⟨b, off + k * 6 + 4, none⟩ = some (.int .i64 xe) ∧ W.cell? ⟨b, off + k * 6 + 5, none⟩ = some (.int .i64 xf)) wr.drew := hSk.out _ hBd.out
      refine wp_region_held_drew (S := (fun W : World => W.cell? ⟨b, off + k * 6, none⟩ = some (.bool xa) ∧ W.cell? ⟨b, off + k * 6 + 1, none⟩ = some (.bool xb) ∧ W.cell? ⟨b, off + k * 6 + 2, none⟩ = some (.int .i64 xc) ∧ W.cell? ⟨b, off + k * 6 + 3, none⟩ = some (.int .i64 xd) ∧ W.cell? ⟨b, off + k * 6 + 4, none⟩ = some (.int .i64 xe) ∧ W.cell? ⟨b, off + k * 6 + 5, none⟩ = some (.int .i64 xf))) (by kernel_rfl) z0 (fun hHeld => ?_)
      refine wpAnyH_take (i := 0) (v := .slice (some ⟨gu, 0, none⟩) cn cn) rfl (by kernel_rfl) (by kernel_rfl) (by kernel_rfl) (fun _ _ _ h => h) (Or.inl ⟨by kernel_rfl, fun W hSw => ?_⟩) (by assumption) ?_
      · (try dsimp only at hSw)
        go_simp
      (try simp only [Act.put, List.setIfInBounds_toArray, List.set_cons_zero, List.set_cons_succ])
      refine wpAnyH_take (i := 1) (v := .int .i64 (k : Int)) rfl (by kernel_rfl) (by kernel_rfl) (by kernel_rfl) (fun _ _ _ h => h) (Or.inl ⟨by kernel_rfl, fun W hSw => ?_⟩) (by assumption) ?_
      · (try dsimp only at hSw)
        go_simp
      (try simp only [Act.put, List.setIfInBounds_toArray, List.set_cons_zero, List.set_cons_succ])
      refine wpAnyH_take (i := 2) (v := .slice (some ⟨b, off, none⟩) cn c5) rfl (by kernel_rfl) (by kernel_rfl) (by kernel_rfl) (fun _ _ _ h => h) (Or.inl ⟨by kernel_rfl, fun W hSw => ?_⟩) (by assumption) ?_
      · (try dsimp only at hSw)
        go_simp
      (try simp only [Act.put, List.setIfInBounds_toArray, List.set_cons_zero, List.set_cons_succ])
      refine wpAnyH_take (i := 3) (v := .int .i64 (k : Int)) rfl (by kernel_rfl) (by kernel_rfl) (by kernel_rfl) (fun _ _ _ h => h) (Or.inl ⟨by kernel_rfl, fun W hSw => ?_⟩) (by assumption) ?_
      · (try dsimp only at hSw)
        go_simp
      (try simp only [Act.put, List.setIfInBounds_toArray, List.set_cons_zero, List.set_cons_succ])
      refine wpAnyH_take (i := 4) (v := .pointer (some ⟨b, off + k * 6, none⟩)) rfl (by kernel_rfl) (by kernel_rfl) (by kernel_rfl) (fun _ _ _ h => h) (Or.inl ⟨by kernel_rfl, fun W hSw => ?_⟩) (by assumption) ?_
      · (try dsimp only at hSw)
        go_simp
      (try simp only [Act.put, List.setIfInBounds_toArray, List.set_cons_zero, List.set_cons_succ])
      refine wpAnyH_take (i := 5) (v := .pointer (some ⟨b, off + k * 6, none⟩)) rfl (by kernel_rfl) (by kernel_rfl) (by kernel_rfl) (fun _ _ _ h => h) (Or.inl ⟨by kernel_rfl, fun W hSw => ?_⟩) (by assumption) ?_
      · (try dsimp only at hSw)
        go_simp
      (try simp only [Act.put, List.setIfInBounds_toArray, List.set_cons_zero, List.set_cons_succ])
      refine wpAnyH_take (i := 6) (v := .pointer (some ⟨b, off + k * 6 + 1, none⟩)) rfl (by kernel_rfl) (by kernel_rfl) (by kernel_rfl) (fun _ _ _ h => h) (Or.inl ⟨by kernel_rfl, fun W hSw => ?_⟩) (by assumption) ?_
      · (try dsimp only at hSw)
        go_simp
      (try simp only [Act.put, List.setIfInBounds_toArray, List.set_cons_zero, List.set_cons_succ])
      refine wpAnyH_take (i := 7) (v := .bool xb) rfl (by kernel_rfl) (by kernel_rfl) (by kernel_rfl) (fun _ _ _ h => h) (Or.inl ⟨by kernel_rfl, fun W hSw => ?_⟩) (by assumption) ?_
      · (try dsimp only at hSw)
        go_simp
      (try simp only [Act.put, List.setIfInBounds_toArray, List.set_cons_zero, List.set_cons_succ])
      refine wpAnyH_take (i := 8) (v := .slice (some ⟨b, off, none⟩) cn c5) rfl (by kernel_rfl) (by kernel_rfl) (by kernel_rfl) (fun _ _ _ h => h) (Or.inl ⟨by kernel_rfl, fun W hSw => ?_⟩) (by assumption) ?_
      · (try dsimp only at hSw)
        go_simp
      (try simp only [Act.put, List.setIfInBounds_toArray, List.set_cons_zero, List.set_cons_succ])
      refine wpAnyH_take (i := 9) (v := .int .i64 (k : Int)) rfl (by kernel_rfl) (by kernel_rfl) (by kernel_rfl) (fun _ _ _ h => h) (Or.inl ⟨by kernel_rfl, fun W hSw => ?_⟩) (by assumption) ?_
      · (try dsimp only at hSw)
        go_simp
      (try simp only [Act.put, List.setIfInBounds_toArray, List.set_cons_zero, List.set_cons_succ])
      refine wpAnyH_take (i := 10) (v := .pointer (some ⟨b, off + k * 6, none⟩)) rfl (by kernel_rfl) (by kernel_rfl) (by kernel_rfl) (fun _ _ _ h => h) (Or.inl ⟨by kernel_rfl, fun W hSw => ?_⟩) (by assumption) ?_
      · (try dsimp only at hSw)
        go_simp
      (try simp only [Act.put, List.setIfInBounds_toArray, List.set_cons_zero, List.set_cons_succ])
      refine wpAnyH_take (i := 11) (v := .pointer (some ⟨b, off + k * 6, none⟩)) rfl (by kernel_rfl) (by kernel_rfl) (by kernel_rfl) (fun _ _ _ h => h) (Or.inl ⟨by kernel_rfl, fun W hSw => ?_⟩) (by assumption) ?_
      · (try dsimp only at hSw)
        go_simp
      (try simp only [Act.put, List.setIfInBounds_toArray, List.set_cons_zero, List.set_cons_succ])
      refine wpAnyH_take (i := 12) (v := .pointer (some ⟨b, off + k * 6, none⟩)) rfl (by kernel_rfl) (by kernel_rfl) (by kernel_rfl) (fun _ _ _ h => h) (Or.inl ⟨by kernel_rfl, fun W hSw => ?_⟩) (by assumption) ?_
      · (try dsimp only at hSw)
        go_simp
      (try simp only [Act.put, List.setIfInBounds_toArray, List.set_cons_zero, List.set_cons_succ])
      refine wpAnyH_take (i := 13) (v := .bool xa) rfl (by kernel_rfl) (by kernel_rfl) (by kernel_rfl) (fun _ _ _ h => h) (Or.inl ⟨by kernel_rfl, fun W hSw => ?_⟩) (by assumption) ?_
      · (try dsimp only at hSw)
        go_simp
      (try simp only [Act.put, List.setIfInBounds_toArray, List.set_cons_zero, List.set_cons_succ])
      refine wpAnyH_take (i := 14) (v := .agg #[.bool xb, .bool xa]) rfl (by kernel_rfl) (by kernel_rfl) (by kernel_rfl) (fun _ _ _ h => h) (Or.inl ⟨by kernel_rfl, fun W hSw => ?_⟩) (by assumption) ?_
      · (try dsimp only at hSw)
        go_simp
      (try simp only [Act.put, List.setIfInBounds_toArray, List.set_cons_zero, List.set_cons_succ])
      refine wpAnyH_take (i := 15) (v := .slice (some ⟨b, off, none⟩) cn c5) rfl (by kernel_rfl) (by kernel_rfl) (by kernel_rfl) (fun _ _ _ h => h) (Or.inl ⟨by kernel_rfl, fun W hSw => ?_⟩) (by assumption) ?_
      · (try dsimp only at hSw)
        go_simp
      (try simp only [Act.put, List.setIfInBounds_toArray, List.set_cons_zero, List.set_cons_succ])
      refine wpAnyH_take (i := 16) (v := .int .i64 (k : Int)) rfl (by kernel_rfl) (by kernel_rfl) (by kernel_rfl) (fun _ _ _ h => h) (Or.inl ⟨by kernel_rfl, fun W hSw => ?_⟩) (by assumption) ?_
      · (try dsimp only at hSw)
        go_simp
      (try simp only [Act.put, List.setIfInBounds_toArray, List.set_cons_zero, List.set_cons_succ])
      refine wpAnyH_take (i := 17) (v := .pointer (some ⟨b, off + k * 6, none⟩)) rfl (by kernel_rfl) (by kernel_rfl) (by kernel_rfl) (fun _ _ _ h => h) (Or.inl ⟨by kernel_rfl, fun W hSw => ?_⟩) (by assumption) ?_
      · (try dsimp only at hSw)
        go_simp
      (try simp only [Act.put, List.setIfInBounds_toArray, List.set_cons_zero, List.set_cons_succ])
      refine wpAnyH_take (i := 18) (v := .pointer (some ⟨b, off + k * 6 + 2, none⟩)) rfl (by kernel_rfl) (by kernel_rfl) (by kernel_rfl) (fun _ _ _ h => h) (Or.inl ⟨by kernel_rfl, fun W hSw => ?_⟩) (by assumption) ?_
      · (try dsimp only at hSw)
        go_simp
      (try simp only [Act.put, List.setIfInBounds_toArray, List.set_cons_zero, List.set_cons_succ])
      refine wpAnyH_take (i := 19) (v := .pointer (some ⟨b, off + k * 6 + 3, none⟩)) rfl (by kernel_rfl) (by kernel_rfl) (by kernel_rfl) (fun _ _ _ h => h) (Or.inl ⟨by kernel_rfl, fun W hSw => ?_⟩) (by assumption) ?_
      · (try dsimp only at hSw)
        go_simp
      (try simp only [Act.put, List.setIfInBounds_toArray, List.set_cons_zero, List.set_cons_succ])
      refine wpAnyH_take (i := 20) (v := .int .i64 xd) rfl (by kernel_rfl) (by kernel_rfl) (by kernel_rfl) (fun _ _ _ h => h) (Or.inl ⟨by kernel_rfl, fun W hSw => ?_⟩) (by assumption) ?_
      · (try dsimp only at hSw)
        go_simp
      (try simp only [Act.put, List.setIfInBounds_toArray, List.set_cons_zero, List.set_cons_succ])
      refine wpAnyH_take (i := 21) (v := .int .i64 nd) rfl (by kernel_rfl) (by kernel_rfl) (by kernel_rfl) (fun _ _ _ h => h) (Or.inl ⟨by kernel_rfl, fun W hSw => ?_⟩) (by assumption) ?_
      · (try dsimp only at hSw)
        go_simp
      (try simp only [Act.put, List.setIfInBounds_toArray, List.set_cons_zero, List.set_cons_succ])
      refine wpAnyH_take (i := 22) (v := .slice (some ⟨b, off, none⟩) cn c5) rfl (by kernel_rfl) (by kernel_rfl) (by kernel_rfl) (fun _ _ _ h => h) (Or.inl ⟨by kernel_rfl, fun W hSw => ?_⟩) (by assumption) ?_
      · (try dsimp only at hSw)
        go_simp
      (try simp only [Act.put, List.setIfInBounds_toArray, List.set_cons_zero, List.set_cons_succ])
      refine wpAnyH_take (i := 23) (v := .int .i64 (k : Int)) rfl (by kernel_rfl) (by kernel_rfl) (by kernel_rfl) (fun _ _ _ h => h) (Or.inl ⟨by kernel_rfl, fun W hSw => ?_⟩) (by assumption) ?_
      · (try dsimp only at hSw)
        go_simp
      (try simp only [Act.put, List.setIfInBounds_toArray, List.set_cons_zero, List.set_cons_succ])
      refine wpAnyH_take (i := 24) (v := .pointer (some ⟨b, off + k * 6, none⟩)) rfl (by kernel_rfl) (by kernel_rfl) (by kernel_rfl) (fun _ _ _ h => h) (Or.inl ⟨by kernel_rfl, fun W hSw => ?_⟩) (by assumption) ?_
      · (try dsimp only at hSw)
        go_simp
      (try simp only [Act.put, List.setIfInBounds_toArray, List.set_cons_zero, List.set_cons_succ])
      refine wpAnyH_take (i := 25) (v := .pointer (some ⟨b, off + k * 6 + 2, none⟩)) rfl (by kernel_rfl) (by kernel_rfl) (by kernel_rfl) (fun _ _ _ h => h) (Or.inl ⟨by kernel_rfl, fun W hSw => ?_⟩) (by assumption) ?_
      · (try dsimp only at hSw)
        go_simp
      (try simp only [Act.put, List.setIfInBounds_toArray, List.set_cons_zero, List.set_cons_succ])
      refine wpAnyH_take (i := 26) (v := .pointer (some ⟨b, off + k * 6 + 2, none⟩)) rfl (by kernel_rfl) (by kernel_rfl) (by kernel_rfl) (fun _ _ _ h => h) (Or.inl ⟨by kernel_rfl, fun W hSw => ?_⟩) (by assumption) ?_
      · (try dsimp only at hSw)
        go_simp
      (try simp only [Act.put, List.setIfInBounds_toArray, List.set_cons_zero, List.set_cons_succ])
      refine wpAnyH_take (i := 27) (v := .int .i64 xc) rfl (by kernel_rfl) (by kernel_rfl) (by kernel_rfl) (fun _ _ _ h => h) (Or.inl ⟨by kernel_rfl, fun W hSw => ?_⟩) (by assumption) ?_
      · (try dsimp only at hSw)
        go_simp
      (try simp only [Act.put, List.setIfInBounds_toArray, List.set_cons_zero, List.set_cons_succ])
      refine wpAnyH_take (i := 28) (v := .int .i64 nc) rfl (by kernel_rfl) (by kernel_rfl) (by kernel_rfl) (fun _ _ _ h => h) (Or.inl ⟨by kernel_rfl, fun W hSw => ?_⟩) (by assumption) ?_
      · (try dsimp only at hSw)
        go_simp
      (try simp only [Act.put, List.setIfInBounds_toArray, List.set_cons_zero, List.set_cons_succ])
      refine wpAnyH_take (i := 29) (v := .agg #[.int .i64 nd, .int .i64 nc]) rfl (by kernel_rfl) (by kernel_rfl) (by kernel_rfl) (fun _ _ _ h => h) (Or.inl ⟨by kernel_rfl, fun W hSw => ?_⟩) (by assumption) ?_
      · (try dsimp only at hSw)
        go_simp
      (try simp only [Act.put, List.setIfInBounds_toArray, List.set_cons_zero, List.set_cons_succ])
      refine wpAnyH_take (i := 30) (v := .slice (some ⟨b, off, none⟩) cn c5) rfl (by kernel_rfl) (by kernel_rfl) (by kernel_rfl) (fun _ _ _ h => h) (Or.inl ⟨by kernel_rfl, fun W hSw => ?_⟩) (by assumption) ?_
      · (try dsimp only at hSw)
        go_simp
      (try simp only [Act.put, List.setIfInBounds_toArray, List.set_cons_zero, List.set_cons_succ])
      refine wpAnyH_take (i := 31) (v := .int .i64 (k : Int)) rfl (by kernel_rfl) (by kernel_rfl) (by kernel_rfl) (fun _ _ _ h => h) (Or.inl ⟨by kernel_rfl, fun W hSw => ?_⟩) (by assumption) ?_
      · (try dsimp only at hSw)
        go_simp
      (try simp only [Act.put, List.setIfInBounds_toArray, List.set_cons_zero, List.set_cons_succ])
      refine wpAnyH_take (i := 32) (v := .pointer (some ⟨b, off + k * 6, none⟩)) rfl (by kernel_rfl) (by kernel_rfl) (by kernel_rfl) (fun _ _ _ h => h) (Or.inl ⟨by kernel_rfl, fun W hSw => ?_⟩) (by assumption) ?_
      · (try dsimp only at hSw)
        go_simp
      (try simp only [Act.put, List.setIfInBounds_toArray, List.set_cons_zero, List.set_cons_succ])
      refine wpAnyH_take (i := 33) (v := .pointer (some ⟨b, off + k * 6 + 4, none⟩)) rfl (by kernel_rfl) (by kernel_rfl) (by kernel_rfl) (fun _ _ _ h => h) (Or.inl ⟨by kernel_rfl, fun W hSw => ?_⟩) (by assumption) ?_
      · (try dsimp only at hSw)
        go_simp
      (try simp only [Act.put, List.setIfInBounds_toArray, List.set_cons_zero, List.set_cons_succ])
      refine wpAnyH_take (i := 34) (v := .pointer (some ⟨b, off + k * 6 + 5, none⟩)) rfl (by kernel_rfl) (by kernel_rfl) (by kernel_rfl) (fun _ _ _ h => h) (Or.inl ⟨by kernel_rfl, fun W hSw => ?_⟩) (by assumption) ?_
      · (try dsimp only at hSw)
        go_simp
      (try simp only [Act.put, List.setIfInBounds_toArray, List.set_cons_zero, List.set_cons_succ])
      refine wpAnyH_take (i := 35) (v := .int .i64 xf) rfl (by kernel_rfl) (by kernel_rfl) (by kernel_rfl) (fun _ _ _ h => h) (Or.inl ⟨by kernel_rfl, fun W hSw => ?_⟩) (by assumption) ?_
      · (try dsimp only at hSw)
        go_simp
      (try simp only [Act.put, List.setIfInBounds_toArray, List.set_cons_zero, List.set_cons_succ])
      refine wpAnyH_take (i := 36) (v := .slice (some ⟨b, off, none⟩) cn c5) rfl (by kernel_rfl) (by kernel_rfl) (by kernel_rfl) (fun _ _ _ h => h) (Or.inl ⟨by kernel_rfl, fun W hSw => ?_⟩) (by assumption) ?_
      · (try dsimp only at hSw)
        go_simp
      (try simp only [Act.put, List.setIfInBounds_toArray, List.set_cons_zero, List.set_cons_succ])
      refine wpAnyH_take (i := 37) (v := .int .i64 (k : Int)) rfl (by kernel_rfl) (by kernel_rfl) (by kernel_rfl) (fun _ _ _ h => h) (Or.inl ⟨by kernel_rfl, fun W hSw => ?_⟩) (by assumption) ?_
      · (try dsimp only at hSw)
        go_simp
      (try simp only [Act.put, List.setIfInBounds_toArray, List.set_cons_zero, List.set_cons_succ])
      refine wpAnyH_take (i := 38) (v := .pointer (some ⟨b, off + k * 6, none⟩)) rfl (by kernel_rfl) (by kernel_rfl) (by kernel_rfl) (fun _ _ _ h => h) (Or.inl ⟨by kernel_rfl, fun W hSw => ?_⟩) (by assumption) ?_
      · (try dsimp only at hSw)
        go_simp
      (try simp only [Act.put, List.setIfInBounds_toArray, List.set_cons_zero, List.set_cons_succ])
      refine wpAnyH_take (i := 39) (v := .pointer (some ⟨b, off + k * 6 + 4, none⟩)) rfl (by kernel_rfl) (by kernel_rfl) (by kernel_rfl) (fun _ _ _ h => h) (Or.inl ⟨by kernel_rfl, fun W hSw => ?_⟩) (by assumption) ?_
      · (try dsimp only at hSw)
        go_simp
      (try simp only [Act.put, List.setIfInBounds_toArray, List.set_cons_zero, List.set_cons_succ])
      refine wpAnyH_take (i := 40) (v := .pointer (some ⟨b, off + k * 6 + 4, none⟩)) rfl (by kernel_rfl) (by kernel_rfl) (by kernel_rfl) (fun _ _ _ h => h) (Or.inl ⟨by kernel_rfl, fun W hSw => ?_⟩) (by assumption) ?_
      · (try dsimp only at hSw)
        go_simp
      (try simp only [Act.put, List.setIfInBounds_toArray, List.set_cons_zero, List.set_cons_succ])
      refine wpAnyH_take (i := 41) (v := .int .i64 xe) rfl (by kernel_rfl) (by kernel_rfl) (by kernel_rfl) (fun _ _ _ h => h) (Or.inl ⟨by kernel_rfl, fun W hSw => ?_⟩) (by assumption) ?_
      · (try dsimp only at hSw)
        go_simp
      (try simp only [Act.put, List.setIfInBounds_toArray, List.set_cons_zero, List.set_cons_succ])
      refine wpAnyH_take (i := 42) (v := .agg #[.int .i64 xf, .int .i64 xe]) rfl (by kernel_rfl) (by kernel_rfl) (by kernel_rfl) (fun _ _ _ h => h) (Or.inl ⟨by kernel_rfl, fun W hSw => ?_⟩) (by assumption) ?_
      · (try dsimp only at hSw)
        go_simp
      (try simp only [Act.put, List.setIfInBounds_toArray, List.set_cons_zero, List.set_cons_succ])
      refine wpAnyH_take (i := 43) (v := .agg #[.bool xb, .bool xa, .int .i64 nd, .int .i64 nc, .int .i64 xf, .int .i64 xe]) rfl (by kernel_rfl) (by kernel_rfl) (by kernel_rfl) (fun _ _ _ h => h) (Or.inl ⟨by kernel_rfl, fun W hSw => ?_⟩) (by assumption) ?_
      · (try dsimp only at hSw)
        go_simp
      (try simp only [Act.put, List.setIfInBounds_toArray, List.set_cons_zero, List.set_cons_succ])
      refine wpAnyH_take (i := 44) (v := .pointer (some ⟨gu, k * 6, none⟩)) rfl (by kernel_rfl) (by kernel_rfl) (by kernel_rfl) (fun _ _ _ h => h) (Or.inl ⟨by kernel_rfl, fun W hSw => ?_⟩) (by assumption) ?_
      · (try dsimp only at hSw)
        go_simp
      (try simp only [Act.put, List.setIfInBounds_toArray, List.set_cons_zero, List.set_cons_succ])
      refine wpAnyH_ready (rs := [45]) (by kernel_rfl) (by simp) ?_
      refine AllReadyH.cons rfl (fun K hK => ?_) AllReadyH.nil
      go_simp
      rw [eW9.out]
      have z9 : (fun W : World => W.cell? ⟨b, off + k * 6, none⟩ = some (.bool xa) ∧ W.cell? ⟨b, off + k * 6 + 1, none⟩ = some (.bool xb) ∧ W.cell? ⟨b, off + k * 6 + 2, none⟩ = some (.int .i64 xc) ∧ W.cell? ⟨b, off + k * 6 + 3, none⟩ = some (.int .i64 xd) ∧ W.cell? ⟨b, off + k * 6 + 4, none⟩ = some (.int .i64 xe) ∧ W.cell? ⟨b, off + k * 6 + 5, none⟩ = some (.int .i64 xf)) W9 := hSk.out W9 hB9.out
      refine hK.out _ _ z9 (fun hHeld => ?_)
      clear hK K
      (try simp only [Act.put, List.setIfInBounds_toArray, List.set_cons_zero, List.set_cons_succ])
      refine wpAnyH_done (by kernel_rfl) ?_ _
      (try simp only [List.getElem_toArray, List.getElem_cons_succ, List.getElem_cons_zero, Act.put, List.setIfInBounds_toArray, List.set_cons_zero, List.set_cons_succ])
      clear hHeld z0 z9 hSk f0 f1 f2 f3 f4 f5 y0 q0 y1 q1 y2 q2 y3 q3 y4 q4 y5 q5 x0 x1 x2 x3 x4 x5 hcs6 bl1 bl2 bl3 bl4 wc wd eW9
      go_wp2_with fail
      go_roundw
      case rel => exact ⟨k + 1, by go_num, hk1, hR9, hB9⟩
      case measure => simp [intOf]; omega
    · obtain rfl : cn = k := by omega
      have d1 : decide ((cn : Int) < (cn : Int)) = false := by simp
      rw [hFe.out] at hR
      have hRs := hR.out.slice
      rw [hFl] at hRs
      obtain ⟨A9, c9, e9, h9, -⟩ := hRs
      injection e9 with e91 e92 e93
      have hU8 : Hid (∀ W, Below wr.heap.size wr W → HV fTp W (some ⟨gu, 0, none⟩) cn FU) := Lib.hid (fun W b => by rw [e91]; exact h9.below b)
      have b5r := h5u.out _ hB.out
      have hm8 : Hid (∀ W, Below wr.heap.size wr W → W.heap[mb]? = some (.cells #[.string (str codem), .slice A1m n1m c1m, .int .i64 tickm, .int .i64 lom, .int .i64 highm, .int .i64 widem, .int .i64 rulem, .int .i64 topm, .int .i64 leastm, .int .i64 partm, .slice (some ⟨gs, 0, none⟩) n1m n1m] 25 (0, 0))) := Lib.hid (fun W b => hm5.out W (below_top b5r b))
      have hOk8 : Hid (∀ W, Below wr.heap.size wr W → PD.Ok ⟨codem, A1m, n1m, c1m, tickm, lom, highm, widem, rulem, topm, leastm, partm, some ⟨gs, 0, none⟩, n1m, n1m, Qm, fun _ => 0⟩ W) := Lib.hid (fun W b => hOk5.out W (below_top b5r b))
      have hV8 : Hid (∀ W, Below wr.heap.size wr W → HV fTp W A5 cn TL) := Lib.hid (fun W b => hV5.out W (below_top b5r b))
      have B8 := Lib.hid (below_top hB5.out b5r)
      clear e91 e92 e93 h9 hR hB hFg hFe hFl h5u hex b5r hOk5 hV5 hm5
      have HWkk : Hid (∀ W : World, Calls Try.prog 19 #[.int .i64 inst, .int .i64 0, .int .i64 ((cn : Int) - 1)] W fun e w' => e = .returned (.int .i64 (withinN inst (cn - 1) : Int)) ∧ w' = W) := Lib.hid (fun W => by have := Within_any inst (cn - 1) W (by omega) i1 i2; rw [show (((cn - 1) : Nat) : Int) = (cn : Int) - 1 by omega] at this; exact this)
      have hwkk := withinN_le inst (cn - 1)
      obtain ⟨kk, ekk⟩ : ∃ k, withinN inst (cn - 1) = k := ⟨_, rfl⟩
      rw [ekk] at HWkk hwkk
      clear ekk
      have B88 := Lib.hid (Below.refl wr.heap.size wr)
      rename World => wt
      go_wp2_with fail
      refine (HWkk.out _).mono ?_
      rintro e ux ⟨rfl, eux⟩
      obtain rfl := eux.symm
      clear HWkk
      go_wp2_with fail
      go_loopw [12] (fun iv wr => ∃ s : Nat, iv = .int .i64 (s : Int) ∧ 1 ≤ s ∧ s ≤ 3 ∧ Hid (Below wt.heap.size wt wr)) (fun iv _ => (3 - intOf iv).toNat)
      case atStart => exact ⟨1, rfl, by omega, by omega, B88⟩
      case round =>
        clear B88
        obtain ⟨s, rfl, hs1, hs2, hB⟩ := hrel
        by_cases hsl : s ≤ 2
        · have ds : decide ((s : Int) ≤ 2) = true := decide_eq_true (by omega)
          obtain ⟨r, hr⟩ : ∃ r, 3 - s = r := ⟨_, rfl⟩
          have e3 : Hid (3 - (s : Int) = (r : Int)) := Lib.hid (by omega)
          have hsd : (s : Int) = 1 ∨ (s : Int) = 2 := by omega
          have HA : Hid (∀ W, Below wt.heap.size wt W → Calls Try.prog 13 #[.agg #[.string (str codem), .slice A1m n1m c1m, .int .i64 tickm, .int .i64 lom, .int .i64 highm, .int .i64 widem, .int .i64 rulem, .int .i64 topm, .int .i64 leastm, .int .i64 partm, .slice (some ⟨gs, 0, none⟩) n1m n1m], .slice A5 cn c5, .int .i64 (kk : Int), .int .i64 (s : Int)] W (AnsQ W.heap.size W (quotesQ ⟨codem, A1m, n1m, c1m, tickm, lom, highm, widem, rulem, topm, leastm, partm, some ⟨gs, 0, none⟩, n1m, n1m, Qm, fun _ => 0⟩ TL (kk : Int) (s : Int)))) := Lib.hid (fun W b => PQuotes_any ⟨codem, A1m, n1m, c1m, tickm, lom, highm, widem, rulem, topm, leastm, partm, some ⟨gs, 0, none⟩, n1m, n1m, Qm, fun _ => 0⟩ A5 cn c5 TL (kk : Int) (s : Int) W (Lib.hid (hOk8.out W b)) (Lib.hid (hV8.out W b)) ht2 ⟨by omega, by omega⟩ ⟨by omega, by omega⟩ (by omega))
          have hqt := quotesQ_turn (p := ⟨codem, A1m, n1m, c1m, tickm, lom, highm, widem, rulem, topm, leastm, partm, some ⟨gs, 0, none⟩, n1m, n1m, Qm, fun _ => 0⟩) hlom.out ht3.out (kk : Int) (side := (s : Int)) hsd
          rw [eFU.out, e3.out] at hqt
          have HBq : Hid (∀ W, Below wt.heap.size wt W → Calls Try.prog 13 #[.agg #[.string (str codem), .slice A1m n1m c1m, .int .i64 tickm, .int .i64 lom, .int .i64 highm, .int .i64 widem, .int .i64 rulem, .int .i64 topm, .int .i64 leastm, .int .i64 partm, .slice (some ⟨gs, 0, none⟩) n1m n1m], .slice (some ⟨gu, 0, none⟩) cn cn, .int .i64 (kk : Int), .int .i64 (r : Int)] W (AnsQ W.heap.size W ((quotesQ ⟨codem, A1m, n1m, c1m, tickm, lom, highm, widem, rulem, topm, leastm, partm, some ⟨gs, 0, none⟩, n1m, n1m, Qm, fun _ => 0⟩ TL (kk : Int) (s : Int)).map turnQ))) := Lib.hid (fun W b => by rw [← hqt]; exact PQuotes_any ⟨codem, A1m, n1m, c1m, tickm, lom, highm, widem, rulem, topm, leastm, partm, some ⟨gs, 0, none⟩, n1m, n1m, Qm, fun _ => 0⟩ (some ⟨gu, 0, none⟩) cn cn FU (kk : Int) (r : Int) W (Lib.hid (hOk8.out W b)) (Lib.hid (hU8.out W b)) okU ⟨by omega, by omega⟩ ⟨by omega, by omega⟩ (by omega))
          have la : (quotesQ ⟨codem, A1m, n1m, c1m, tickm, lom, highm, widem, rulem, topm, leastm, partm, some ⟨gs, 0, none⟩, n1m, n1m, Qm, fun _ => 0⟩ TL (kk : Int) (s : Int)).length ≤ 100 := quotesQ_len
          have oa := Lib.hid (quotesQ_ok (p := ⟨codem, A1m, n1m, c1m, tickm, lom, highm, widem, rulem, topm, leastm, partm, some ⟨gs, 0, none⟩, n1m, n1m, Qm, fun _ => 0⟩) ht2.out (kk : Int) (s : Int))
          have ob : Hid (OkQ ((quotesQ ⟨codem, A1m, n1m, c1m, tickm, lom, highm, widem, rulem, topm, leastm, partm, some ⟨gs, 0, none⟩, n1m, n1m, Qm, fun _ => 0⟩ TL (kk : Int) (s : Int)).map turnQ)) := Lib.hid (by rw [← hqt]; exact quotesQ_ok okU.out (kk : Int) (r : Int))
          have ln : Hid (∀ y ∈ quotesQ ⟨codem, A1m, n1m, c1m, tickm, lom, highm, widem, rulem, topm, leastm, partm, some ⟨gs, 0, none⟩, n1m, n1m, Qm, fun _ => 0⟩ TL (kk : Int) (s : Int), (-2000000 ≤ y.p ∧ y.p ≤ 2000000) ∧ (y.s1 = 1 ∨ y.s1 = 2) ∧ (y.s2 = 1 ∨ y.s2 = 2)) := Lib.hid (fun y hy => quotes_near ht3.out hy)
          have sh : Hid (-2000000 ≤ (showP (quotesQ ⟨codem, A1m, n1m, c1m, tickm, lom, highm, widem, rulem, topm, leastm, partm, some ⟨gs, 0, none⟩, n1m, n1m, Qm, fun _ => 0⟩ TL (kk : Int) (s : Int)) (s : Int)).1 ∧ (showP (quotesQ ⟨codem, A1m, n1m, c1m, tickm, lom, highm, widem, rulem, topm, leastm, partm, some ⟨gs, 0, none⟩, n1m, n1m, Qm, fun _ => 0⟩ TL (kk : Int) (s : Int)) (s : Int)).1 ≤ 2000000) := Lib.hid (show_near (fun y hy => (ln.out y hy).1) (s : Int))
          obtain ⟨LA, eLA⟩ : ∃ l, quotesQ ⟨codem, A1m, n1m, c1m, tickm, lom, highm, widem, rulem, topm, leastm, partm, some ⟨gs, 0, none⟩, n1m, n1m, Qm, fun _ => 0⟩ TL (kk : Int) (s : Int) = l := ⟨_, rfl⟩
          rw [eLA] at HA HBq la oa ob ln sh
          have e4 : 3 - (s : Int) = (r : Int) := e3.out
          clear eLA hqt hsd
          have HC := HA.out wr hB.out
          obtain ⟨k0, k1, k2, k3, k4, k5, k6, k7, k8, k9, k10⟩ := row11 (hm8.out wr hB.out)
          replace HC := Lib.hid HC
          go_wp2_with fail
          refine HC.out.mono ?_
          rintro e wa ⟨Aa, na, ca, rfl, hva, -, -, -, -, bb⟩
          have Ba := Lib.hid (below_top hB.out bb)
          obtain rfl : na = LA.length := hva.1.symm
          have hVa : Hid (∀ W, Below wa.heap.size wa W → HV fQt W Aa LA.length LA) := Lib.hid (fun W b => hva.below b)
          clear k0 k1 k2 k3 k4 k5 k6 k7 k8 k9 k10 HC hva bb
          have HC := HBq.out wa Ba.out
          obtain ⟨k0, k1, k2, k3, k4, k5, k6, k7, k8, k9, k10⟩ := row11 (hm8.out wa Ba.out)
          replace HC := Lib.hid HC
          go_wp2_with fail
          refine HC.out.mono ?_
          rintro e wb ⟨Ab, nb, cb, rfl, hvb, -, -, -, -, bb⟩
          have Bb := Lib.hid (below_top Ba.out bb)
          have hnb : nb = LA.length := by rw [← hvb.1, List.length_map]
          subst hnb
          have hVa2 : Hid (∀ W, Below wb.heap.size wb W → HV fQt W Aa LA.length LA) := Lib.hid (fun W b => hVa.out _ (below_top bb b))
          have hVb2 : Hid (∀ W, Below wb.heap.size wb W → HV fQt W Ab LA.length (LA.map turnQ)) := Lib.hid (fun W b => hvb.below b)
          have Bb0 := Lib.hid (Below.refl wb.heap.size wb)
          have hS1 : Hid (∀ W, Below wb.heap.size wb W → Calls Try.prog 22 #[.slice Aa LA.length ca, .int .i64 (s : Int)] W _) := Lib.hid (fun W b => PShow_any Aa LA.length ca LA (s : Int) W (Lib.hid (hVa2.out W b)) oa (by omega) (by omega) (by have := la; omega))
          have hS2 : Hid (∀ W, Below wb.heap.size wb W → Calls Try.prog 22 #[.slice Ab LA.length cb, .int .i64 (r : Int)] W _) := Lib.hid (fun W b => by have h := PShow_any Ab LA.length cb (LA.map turnQ) (r : Int) W (Lib.hid (hVb2.out W b)) ob (by omega) (by omega) (by have := la; omega); rw [← e3.out, showP_turn (s := (s : Int)) (by omega)] at h; rw [e3.out] at h; exact h)
          clear k0 k1 k2 k3 k4 k5 k6 k7 k8 k9 k10 HC hvb bb hVa Ba HA HBq
          obtain ⟨na, ena⟩ : ∃ x, LA.length = x := ⟨_, rfl⟩
          have hla := la
          rw [ena] at hVa2 hVb2 hla hS1 hS2 ⊢
          have hex2 : Hid (∀ k, k < na → ∃ y, LA[k]? = some y) := Lib.hid (fun k hk => ⟨_, List.getElem?_eq_getElem (by omega)⟩)
          have hmp : Hid (∀ k y, LA[k]? = some y → (LA.map turnQ)[k]? = some (turnQ y)) := Lib.hid (fun k y h => by rw [List.getElem?_map, h]; rfl)
          obtain ⟨c1, ec1⟩ : ∃ z, (showP LA (s : Int)).1 = z := ⟨_, rfl⟩
          obtain ⟨c2, ec2⟩ : ∃ z, (showP LA (s : Int)).2.1 = z := ⟨_, rfl⟩
          obtain ⟨c3, ec3⟩ : ∃ z, (showP LA (s : Int)).2.2.1 = z := ⟨_, rfl⟩
          obtain ⟨c4, ec4⟩ : ∃ z, (showP LA (s : Int)).2.2.2 = z := ⟨_, rfl⟩
          have hc1 : -2000000 ≤ c1 ∧ c1 ≤ 2000000 := by rw [← ec1]; exact sh.out
          rw [ec1, ec2, ec3, ec4] at hS1 hS2
          obtain ⟨dz, ed1⟩ : ∃ z, -c1 = z := ⟨_, rfl⟩
          simp only at hS2
          rw [ed1] at hS2
          replace ena := Lib.hid ena
          clear ec1 ec2 ec3 ec4
          have dnn : ((na : Int) != (na : Int)) = false := by simp
          have hd1 : dz = -c1 := ed1.symm
          replace hd1 := Lib.hid hd1
          replace ed1 := Lib.hid ed1
          go_wp2_with fail
          refine IMir_loop (Lib.hid (hVa2.out _ (Below.refl _ _))) (Lib.hid (hVb2.out _ (Below.refl _ _))) ln hla (Lib.hid (fun _ _ d _ _ h => by cases d <;> exact h)) (Lib.hid ?_)
          intro u6 u117 u118 u119 u120 u121 u122 u123 u124 u125 u126 u127 u128 u129 u130 u131 u132 u133 u134 u135 u136 u137 u138 u139 u140 u141 u142 u143 u144 u145 u146 u147 u148 u149 u150 u151 u152 u153 u154 u155 u156 u157 u158 u159 u160 u161 u162 u163 u164 u165 u166 u167 u168 u169 u170 u171 u172 u173 u174 u175 u176 u177 u178 u179 u180 u181 u182 u183 u184 u185 u186 u187 u188 u189 u190 u191 u192 u193 u194 u195 u196 u197 u198 u199 u200 u201 u202 u203 u204 u205 u206 u207 u208 u209 u210 u211 u212 u213 u214 u215 u216 u217 w5 hB5
          have hS1' := Lib.hid (hS1.out _ hB5.out)
          go_wp2_with fail
          refine hS1'.out.mono ?_
          rintro e wc ⟨rfl, bb⟩
          have Bc := Lib.hid (below_top hB5.out bb)
          have hS2' := Lib.hid (hS2.out _ Bc.out)
          clear bb hS1'
          go_wp2_with fail
          refine hS2'.out.mono ?_
          rintro e wd ⟨rfl, bb⟩
          have Bd := Lib.hid (below_top Bb.out (below_top Bc.out bb))
          have wdz : IntKind.i64.wrap (-dz) = c1 := by rw [hd1.out, Int.neg_neg]; exact wrap_in (by omega) (by omega)
          have vdz : -dz = c1 := by rw [hd1.out, Int.neg_neg]
          have m1 : (c1 != c1) = false := by simp
          have m2 : (c2 != c2) = false := by simp
          have m3 : (c3 != c3) = false := by simp
          have m4 : (c4 != c4) = false := by simp
          clear bb hS2'
          go_wp2_with fail
          go_roundw
          case rel => exact ⟨s + 1, by go_num, by omega, by omega, Bd⟩
          case measure => simp [intOf]; omega
        · have ds : decide ((s : Int) ≤ 2) = false := decide_eq_false (by omega)
          have Bf := Lib.hid (below_top B8.out hB.out)
          go_wp2_with fail
          refine (Known_any _).mono ?_
          rintro e wk ⟨rfl, bb⟩
          have Bk := Lib.hid (below_top Bf.out bb)
          clear bb
          go_wp2_with fail
          go_ret
          exact ⟨rfl, Bk.out⟩
end Go.Proofs.Ytdeofifidjbolaa
