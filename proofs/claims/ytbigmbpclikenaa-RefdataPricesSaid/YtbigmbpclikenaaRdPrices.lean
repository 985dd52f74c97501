/-
  The walk of the law RefdataPrices.
-/
import Derived.Test.YtbigmbpclikenaaRdPriceFacts
import Derived.Test.YtbigmbpclikenaaRdLegs
import Derived.Test.YtbigmbpclikenaaRdCount
import Derived.Test.YtbigmbpclikenaaRdKnown
import Derived.Test.YtbigmbpclikenaaRdNone
import Derived.Deep.RegionHeld3
import Derived.Deep.Cut
import Derived.Deep.QuietTactic
import Derived.BigQuiet
namespace Go.Proofs.Ytbigmbpclikenaa
open Go.RowKit
set_option linter.unusedVariables false
set_option linter.unusedSimpArgs false

theorem band_bd {T s : Int} (h1 : 1 ≤ T) (h2 : T ≤ 10) (h3 : -200 ≤ s) (h4 : s ≤ 200) : -2000 ≤ T * s ∧ T * s ≤ 2000 := by
  have a1 : T * s ≤ T * 200 := Int.mul_le_mul_of_nonneg_left h4 (by omega)
  have a2 : T * (-200) ≤ T * s := Int.mul_le_mul_of_nonneg_left h3 (by omega)
  omega
theorem below_step {a W u : World} {q : Nat} (h : Below a.heap.size a W) (b : Below (W.drewN q).heap.size (W.drewN q) u) : Below a.heap.size a u := (below_drewN h q).trans (b.mono (below_drewN h q).size)
set_option maxRecDepth 100000 in
set_option maxHeartbeats 1600000 in
theorem Prices_walk (p : PD) (inst steps : Int) (w : World) (h : Hid (p.Fit w)) (hin : I64 inst) (hst : I64 steps) :
    Calls Try.prog 6 #[p.val, .int .i64 inst, .int .i64 steps] w fun e w' => e = .returned (.bool true) ∧ Below w.heap.size w w' := by
  have HK : Hid (∀ W, Below w.heap.size w W → Calls Try.prog 18 #[p.val] W fun e w' => ∃ q : PD, (chk q = 0 ∧ ∀ k : Int, ∃ T a b : Int, Band q k T a b) ∧ e = .returned q.val ∧ q.Ok w' ∧ Below W.heap.size W w') := Lib.hid (fun W b => (KProduct_any p W (Lib.hid (h.out.below b))).mono fun e w' ⟨A1, c1, A2, c2, h1, h2, h3⟩ => ⟨_, ⟨keepP_chk p A1 c1 A2 c2, band_of p A1 c1 A2 c2⟩, h1, h2, h3⟩)
  clear h
  obtain ⟨code, A1, n1, c1, tick, low, high, wide, rule, top, least, part, A2, n2, c2, Q, R⟩ := p
  replace HK : Hid (∀ W, Below w.heap.size w W → Calls Try.prog 18 #[.agg #[.string (str code), .slice A1 n1 c1, .int .i64 tick, .int .i64 low, .int .i64 high, .int .i64 wide, .int .i64 rule, .int .i64 top, .int .i64 least, .int .i64 part, .slice A2 n2 c2]] W fun e w' => ∃ q : PD, (chk q = 0 ∧ ∀ k : Int, ∃ T a b : Int, Band q k T a b) ∧ e = .returned q.val ∧ q.Ok w' ∧ Below W.heap.size W w') := HK
  show Calls Try.prog 6 #[.agg #[.string (str code), .slice A1 n1 c1, .int .i64 tick, .int .i64 low, .int .i64 high, .int .i64 wide, .int .i64 rule, .int .i64 top, .int .i64 least, .int .i64 part, .slice A2 n2 c2], .int .i64 inst, .int .i64 steps] w _
  obtain ⟨W0, eW0⟩ : ∃ W0, w.alloc (.cells #[.string (str code), .slice A1 n1 c1, .int .i64 tick, .int .i64 low, .int .i64 high, .int .i64 wide, .int .i64 rule, .int .i64 top, .int .i64 least, .int .i64 part, .slice A2 n2 c2] 25) = W0 := ⟨_, rfl⟩
  obtain ⟨pb, epb⟩ : ∃ pb, w.heap.size = pb := ⟨_, rfl⟩
  have hblk0 : W0.heap[pb]? = some (.cells #[.string (str code), .slice A1 n1 c1, .int .i64 tick, .int .i64 low, .int .i64 high, .int .i64 wide, .int .i64 rule, .int .i64 top, .int .i64 least, .int .i64 part, .slice A2 n2 c2] 25 (0, 0)) := by
    rw [← eW0, ← epb]; exact heap_alloc_new w _
  have hB0 : Below w.heap.size w W0 := by rw [← eW0]; exact (Below.refl _ w).alloc (Nat.le_refl _) _
  have hpb0 : pb < W0.heap.size := (Array.getElem?_eq_some_iff.1 hblk0).1
  have kk : ∀ W : World, W.heap[pb]? = some (.cells #[.string (str code), .slice A1 n1 c1, .int .i64 tick, .int .i64 low, .int .i64 high, .int .i64 wide, .int .i64 rule, .int .i64 top, .int .i64 least, .int .i64 part, .slice A2 n2 c2] 25 (0, 0)) → W.cell? ⟨pb, 0, none⟩ = some (.string (str code)) ∧ W.cell? ⟨pb, 1, none⟩ = some (.slice A1 n1 c1) ∧ W.cell? ⟨pb, 2, none⟩ = some (.int .i64 tick) ∧ W.cell? ⟨pb, 3, none⟩ = some (.int .i64 low) ∧ W.cell? ⟨pb, 4, none⟩ = some (.int .i64 high) ∧ W.cell? ⟨pb, 5, none⟩ = some (.int .i64 wide) ∧ W.cell? ⟨pb, 6, none⟩ = some (.int .i64 rule) ∧ W.cell? ⟨pb, 7, none⟩ = some (.int .i64 top) ∧ W.cell? ⟨pb, 8, none⟩ = some (.int .i64 least) ∧ W.cell? ⟨pb, 9, none⟩ = some (.int .i64 part) ∧ W.cell? ⟨pb, 10, none⟩ = some (.slice A2 n2 c2) := by
    intro W hb
    refine ⟨?_, ?_, ?_, ?_, ?_, ?_, ?_, ?_, ?_, ?_, ?_⟩ <;> (rw [Lib.cell_of_heap hb]; rfl)
  replace kk := Lib.hid kk
  replace eW0 := Lib.hid eW0
  replace epb := Lib.hid epb
  have a0 : (w.alloc (.cells #[.string (str code), .slice A1 n1 c1, .int .i64 tick, .int .i64 low, .int .i64 high, .int .i64 wide, .int .i64 rule, .int .i64 top, .int .i64 least, .int .i64 part, .slice A2 n2 c2] 25)).cell? ⟨w.heap.size, 0, none⟩ = some (.string (str code)) := by
    rw [eW0.out, epb.out]; exact (kk.out W0 hblk0).1
  have a1 : (w.alloc (.cells #[.string (str code), .slice A1 n1 c1, .int .i64 tick, .int .i64 low, .int .i64 high, .int .i64 wide, .int .i64 rule, .int .i64 top, .int .i64 least, .int .i64 part, .slice A2 n2 c2] 25)).cell? ⟨w.heap.size, 1, none⟩ = some (.slice A1 n1 c1) := by
    rw [eW0.out, epb.out]; exact (kk.out W0 hblk0).2.1
  have a2 : (w.alloc (.cells #[.string (str code), .slice A1 n1 c1, .int .i64 tick, .int .i64 low, .int .i64 high, .int .i64 wide, .int .i64 rule, .int .i64 top, .int .i64 least, .int .i64 part, .slice A2 n2 c2] 25)).cell? ⟨w.heap.size, 2, none⟩ = some (.int .i64 tick) := by
    rw [eW0.out, epb.out]; exact (kk.out W0 hblk0).2.2.1
  have a3 : (w.alloc (.cells #[.string (str code), .slice A1 n1 c1, .int .i64 tick, .int .i64 low, .int .i64 high, .int .i64 wide, .int .i64 rule, .int .i64 top, .int .i64 least, .int .i64 part, .slice A2 n2 c2] 25)).cell? ⟨w.heap.size, 3, none⟩ = some (.int .i64 low) := by
    rw [eW0.out, epb.out]; exact (kk.out W0 hblk0).2.2.2.1
  have a4 : (w.alloc (.cells #[.string (str code), .slice A1 n1 c1, .int .i64 tick, .int .i64 low, .int .i64 high, .int .i64 wide, .int .i64 rule, .int .i64 top, .int .i64 least, .int .i64 part, .slice A2 n2 c2] 25)).cell? ⟨w.heap.size, 4, none⟩ = some (.int .i64 high) := by
    rw [eW0.out, epb.out]; exact (kk.out W0 hblk0).2.2.2.2.1
  have a5 : (w.alloc (.cells #[.string (str code), .slice A1 n1 c1, .int .i64 tick, .int .i64 low, .int .i64 high, .int .i64 wide, .int .i64 rule, .int .i64 top, .int .i64 least, .int .i64 part, .slice A2 n2 c2] 25)).cell? ⟨w.heap.size, 5, none⟩ = some (.int .i64 wide) := by
    rw [eW0.out, epb.out]; exact (kk.out W0 hblk0).2.2.2.2.2.1
  have a6 : (w.alloc (.cells #[.string (str code), .slice A1 n1 c1, .int .i64 tick, .int .i64 low, .int .i64 high, .int .i64 wide, .int .i64 rule, .int .i64 top, .int .i64 least, .int .i64 part, .slice A2 n2 c2] 25)).cell? ⟨w.heap.size, 6, none⟩ = some (.int .i64 rule) := by
    rw [eW0.out, epb.out]; exact (kk.out W0 hblk0).2.2.2.2.2.2.1
  have a7 : (w.alloc (.cells #[.string (str code), .slice A1 n1 c1, .int .i64 tick, .int .i64 low, .int .i64 high, .int .i64 wide, .int .i64 rule, .int .i64 top, .int .i64 least, .int .i64 part, .slice A2 n2 c2] 25)).cell? ⟨w.heap.size, 7, none⟩ = some (.int .i64 top) := by
    rw [eW0.out, epb.out]; exact (kk.out W0 hblk0).2.2.2.2.2.2.2.1
  have a8 : (w.alloc (.cells #[.string (str code), .slice A1 n1 c1, .int .i64 tick, .int .i64 low, .int .i64 high, .int .i64 wide, .int .i64 rule, .int .i64 top, .int .i64 least, .int .i64 part, .slice A2 n2 c2] 25)).cell? ⟨w.heap.size, 8, none⟩ = some (.int .i64 least) := by
    rw [eW0.out, epb.out]; exact (kk.out W0 hblk0).2.2.2.2.2.2.2.2.1
  have a9 : (w.alloc (.cells #[.string (str code), .slice A1 n1 c1, .int .i64 tick, .int .i64 low, .int .i64 high, .int .i64 wide, .int .i64 rule, .int .i64 top, .int .i64 least, .int .i64 part, .slice A2 n2 c2] 25)).cell? ⟨w.heap.size, 9, none⟩ = some (.int .i64 part) := by
    rw [eW0.out, epb.out]; exact (kk.out W0 hblk0).2.2.2.2.2.2.2.2.2.1
  have a10 : (w.alloc (.cells #[.string (str code), .slice A1 n1 c1, .int .i64 tick, .int .i64 low, .int .i64 high, .int .i64 wide, .int .i64 rule, .int .i64 top, .int .i64 least, .int .i64 part, .slice A2 n2 c2] 25)).cell? ⟨w.heap.size, 10, none⟩ = some (.slice A2 n2 c2) := by
    rw [eW0.out, epb.out]; exact (kk.out W0 hblk0).2.2.2.2.2.2.2.2.2.2
  go_enter Try.func6, Try.ntmps6
  go_wp2_with fail
  rw [eW0.out]
  rw [epb.out]
  clear a0 a1 a2 a3 a4 a5 a6 a7 a8 a9 a10 eW0
  obtain ⟨k0, k1, k2, k3, k4, k5, k6, k7, k8, k9, k10⟩ := kk.out W0 hblk0
  refine (HK.out W0 hB0).mono ?_
  clear HK
  rintro e w1 ⟨q, hpred, rfl, hOk, b1⟩
  have hB1 := hB0.trans (b1.mono hB0.size)
  clear k0 k1 k2 k3 k4 k5 k6 k7 k8 k9 k10 kk hblk0 hpb0 hB0 b1
  obtain ⟨mb, emb⟩ : ∃ x, w1.heap.size = x := ⟨_, rfl⟩
  obtain ⟨W4, eW4⟩ : ∃ W, w1.alloc (.cells q.cells 25) = W := ⟨_, rfl⟩
  have H4 : W4.heap[mb]? = some (.cells q.cells 25 (0, 0)) := by rw [← eW4, ← emb]; exact heap_alloc_new w1 _
  have hB4 : Below w.heap.size w W4 := by rw [← eW4]; exact hB1.alloc hB1.size _
  have hOk4 : q.Ok W4 := by rw [← eW4]; exact hOk.below ((Below.refl _ w1).alloc (Nat.le_refl _) _)
  have KK : Hid (∀ W, Below W4.heap.size W4 W → W.heap[mb]? = some (.cells q.cells 25 (0, 0))) := Lib.hid (fun W g => (g.block mb (Array.getElem?_eq_some_iff.1 H4).1).trans H4)
  have HWw : Hid (∀ W, Below W4.heap.size W4 W → Below w.heap.size w W) := Lib.hid (fun W g => hB4.trans (g.mono hB4.size))
  clear hOk hB1 H4 hB4
  have hz := hpred.1
  have c3 := cnt_three hz
  have c21 := cntL_le q
  obtain ⟨c, ec⟩ : ∃ c, cntL q = c + 1 := ⟨cntL q - 1, by omega⟩
  have hc20 : c ≤ 20 := by omega
  have hw64 : wrap64 (c : Int) = (c : Int) := by unfold wrap64; omega
  obtain ⟨k, ek⟩ : ∃ k, withinN inst c = k := ⟨_, rfl⟩
  have hkc := withinN_le inst c
  rw [ek] at hkc
  have hk0 : (0 : Int) ≤ (k : Int) := by omega
  have hk1 : (k : Int) < cntL q := by omega
  obtain ⟨T, a, b, hb⟩ := hpred.2 k
  obtain ⟨⟨li, lj, sp⟩, el⟩ : ∃ x, legsL q (k : Int) = x := ⟨_, rfl⟩
  have HWi : Hid (∀ W, Calls Try.prog 19 #[.int .i64 inst, .int .i64 0, .int .i64 c] W fun e w' => e = .returned (.int .i64 k) ∧ w' = W) := Lib.hid (fun W => by rw [← ek]; exact Within_any inst c W (by omega) hin.1 hin.2)
  obtain ⟨m, em⟩ : ∃ m : Nat, (m : Int) = b - a := ⟨(b - a).toNat, by have := hb.a2; have := hb.b1; omega⟩
  obtain ⟨s, es⟩ : ∃ s, withinN steps m = s := ⟨_, rfl⟩
  have hsm := withinN_le steps m
  rw [es] at hsm
  have hm200 : m ≤ 200 := by have := hb.a1; have := hb.b2; omega
  have HWs : Hid (∀ W, Calls Try.prog 19 #[.int .i64 steps, .int .i64 0, .int .i64 m] W fun e w' => e = .returned (.int .i64 s) ∧ w' = W) := Lib.hid (fun W => by rw [← es]; exact Within_any steps m W (by omega) hst.1 hst.2)
  have HPi : Hid (∀ s : Int, a ≤ s → s ≤ b → ∀ W, Below W4.heap.size W4 W → Calls Try.prog 14 #[q.val, .int .i64 k, .int .i64 (T * s)] W fun e w' => e = .returned (.int .i64 0) ∧ Below W.heap.size W w') := Lib.hid (fun s g1 g2 W g => by
    have b1 := band_bd hb.T1 hb.T2 (show -200 ≤ s by have := hb.a1; omega) (show s ≤ 200 by have := hb.b2; omega)
    have := PPrice_any q k (T * s) W (Lib.hid (hOk4.below g)) ⟨by omega, by omega⟩ ⟨by omega, by omega⟩
    rw [price_in hz hk0 hk1 hb g1 g2] at this; exact this)
  have HPo : Hid (∀ s : Int, (s = a - 1 ∨ s = b + 1) → ∀ W, Below W4.heap.size W4 W → Calls Try.prog 14 #[q.val, .int .i64 k, .int .i64 (T * s)] W fun e w' => e = .returned (.int .i64 23) ∧ Below W.heap.size W w') := Lib.hid (fun s g1 W g => by
    have q1 := hb.a1
    have q2 := hb.b2
    have q3 := hb.a2
    have q4 := hb.b1
    have b1 := band_bd hb.T1 hb.T2 (show -200 ≤ s by omega) (show s ≤ 200 by omega)
    have := PPrice_any q k (T * s) W (Lib.hid (hOk4.below g)) ⟨by omega, by omega⟩ ⟨by omega, by omega⟩
    rw [price_out hz hk0 hk1 hb (by omega)] at this; exact this)
  have HPf : Hid (T ≠ 1 → ∀ s : Int, a ≤ s → s ≤ b → ∀ W, Below W4.heap.size W4 W → Calls Try.prog 14 #[q.val, .int .i64 k, .int .i64 (T * s + 1)] W fun e w' => e = .returned (.int .i64 22) ∧ Below W.heap.size W w') := Lib.hid (fun hT s g1 g2 W g => by
    have b1 := band_bd hb.T1 hb.T2 (show -200 ≤ s by have := hb.a1; omega) (show s ≤ 200 by have := hb.b2; omega)
    have := PPrice_any q k (T * s + 1) W (Lib.hid (hOk4.below g)) ⟨by omega, by omega⟩ ⟨by omega, by omega⟩
    rw [price_off hz hk0 hk1 hb hT] at this; exact this)
  have hlo := hb.lo
  have hhi := hb.hi
  have htk := hb.tick
  have ba1 := band_bd hb.T1 hb.T2 (show -200 ≤ a by have := hb.a1; omega) (show a ≤ 200 by have := hb.a2; omega)
  have bb1 := band_bd hb.T1 hb.T2 (show -200 ≤ b by have := hb.b1; omega) (show b ≤ 200 by have := hb.b2; omega)
  have bx1 := band_bd hb.T1 hb.T2 (show -200 ≤ a + s by have := hb.a1; omega) (show a + s ≤ 200 by have := hb.b2; omega)
  have T1 := hb.T1
  have T2 := hb.T2
  have hds : a ≤ a + s ∧ a + (s : Int) ≤ b ∧ a ≤ b := by have := hb.a2; have := hb.b1; omega
  rw [el] at hlo hhi
  simp only at hlo hhi
  have HC : Hid (∀ W, Below W4.heap.size W4 W → Calls Try.prog 21 #[q.val] W fun e w' => e = .returned (.int .i64 ((c + 1 : Nat) : Int)) ∧ Below W.heap.size W w') := Lib.hid (fun W g => by rw [← ec]; exact PCount_any q W (Lib.hid (hOk4.below g)))
  have HL : Hid (∀ W, Below W4.heap.size W4 W → Calls Try.prog 22 #[q.val, .int .i64 k] W fun e w' => e = .returned (.tuple #[.int .i64 li, .int .i64 lj, .bool sp]) ∧ Below W.heap.size W w') := Lib.hid (fun W g => by have := PLegs_any q k W (Lib.hid (hOk4.below g)) ⟨by omega, by omega⟩; rw [el] at this; exact this)
  clear hpred hz c3 c21 ec ek hb el es hk0 hk1 hOk4
  obtain ⟨code, A1, n1, c1, tick, low, high, wide, rule, top, least, part, A2, n2, c2, Q, R⟩ := q
  replace HC : Hid (∀ W, Below W4.heap.size W4 W → Calls Try.prog 21 #[.agg #[.string (str code), .slice A1 n1 c1, .int .i64 tick, .int .i64 low, .int .i64 high, .int .i64 wide, .int .i64 rule, .int .i64 top, .int .i64 least, .int .i64 part, .slice A2 n2 c2]] W fun e w' => e = .returned (.int .i64 ((c + 1 : Nat) : Int)) ∧ Below W.heap.size W w') := HC
  replace HL : Hid (∀ W, Below W4.heap.size W4 W → Calls Try.prog 22 #[.agg #[.string (str code), .slice A1 n1 c1, .int .i64 tick, .int .i64 low, .int .i64 high, .int .i64 wide, .int .i64 rule, .int .i64 top, .int .i64 least, .int .i64 part, .slice A2 n2 c2], .int .i64 k] W fun e w' => e = .returned (.tuple #[.int .i64 li, .int .i64 lj, .bool sp]) ∧ Below W.heap.size W w') := HL
  replace KK : Hid (∀ W, Below W4.heap.size W4 W → W.cell? ⟨mb, 0, none⟩ = some (.string (str code)) ∧ W.cell? ⟨mb, 1, none⟩ = some (.slice A1 n1 c1) ∧ W.cell? ⟨mb, 2, none⟩ = some (.int .i64 tick) ∧ W.cell? ⟨mb, 3, none⟩ = some (.int .i64 low) ∧ W.cell? ⟨mb, 4, none⟩ = some (.int .i64 high) ∧ W.cell? ⟨mb, 5, none⟩ = some (.int .i64 wide) ∧ W.cell? ⟨mb, 6, none⟩ = some (.int .i64 rule) ∧ W.cell? ⟨mb, 7, none⟩ = some (.int .i64 top) ∧ W.cell? ⟨mb, 8, none⟩ = some (.int .i64 least) ∧ W.cell? ⟨mb, 9, none⟩ = some (.int .i64 part) ∧ W.cell? ⟨mb, 10, none⟩ = some (.slice A2 n2 c2)) := Lib.hid (fun W g => row11 (KK.out W g))
  replace eW4 : w1.alloc (.cells #[.string (str code), .slice A1 n1 c1, .int .i64 tick, .int .i64 low, .int .i64 high, .int .i64 wide, .int .i64 rule, .int .i64 top, .int .i64 least, .int .i64 part, .slice A2 n2 c2] 25) = W4 := eW4
  replace eW4 := Lib.hid eW4
  rw [show PD.val ⟨code, A1, n1, c1, tick, low, high, wide, rule, top, least, part, A2, n2, c2, Q, R⟩ = .agg #[.string (str code), .slice A1 n1 c1, .int .i64 tick, .int .i64 low, .int .i64 high, .int .i64 wide, .int .i64 rule, .int .i64 top, .int .i64 least, .int .i64 part, .slice A2 n2 c2] from rfl]
  simp only at hlo hhi htk
  subst htk
  replace HPi : Hid (∀ s : Int, a ≤ s → s ≤ b → ∀ W, Below W4.heap.size W4 W → Calls Try.prog 14 #[.agg #[.string (str code), .slice A1 n1 c1, .int .i64 tick, .int .i64 low, .int .i64 high, .int .i64 wide, .int .i64 rule, .int .i64 top, .int .i64 least, .int .i64 part, .slice A2 n2 c2], .int .i64 k, .int .i64 (tick * s)] W fun e w' => e = .returned (.int .i64 0) ∧ Below W.heap.size W w') := HPi
  replace HPo : Hid (∀ s : Int, (s = a - 1 ∨ s = b + 1) → ∀ W, Below W4.heap.size W4 W → Calls Try.prog 14 #[.agg #[.string (str code), .slice A1 n1 c1, .int .i64 tick, .int .i64 low, .int .i64 high, .int .i64 wide, .int .i64 rule, .int .i64 top, .int .i64 least, .int .i64 part, .slice A2 n2 c2], .int .i64 k, .int .i64 (tick * s)] W fun e w' => e = .returned (.int .i64 23) ∧ Below W.heap.size W w') := HPo
  replace HPf : Hid (tick ≠ 1 → ∀ s : Int, a ≤ s → s ≤ b → ∀ W, Below W4.heap.size W4 W → Calls Try.prog 14 #[.agg #[.string (str code), .slice A1 n1 c1, .int .i64 tick, .int .i64 low, .int .i64 high, .int .i64 wide, .int .i64 rule, .int .i64 top, .int .i64 least, .int .i64 part, .slice A2 n2 c2], .int .i64 k, .int .i64 (tick * s + 1)] W fun e w' => e = .returned (.int .i64 22) ∧ Below W.heap.size W w') := HPf
  have HM0 : Hid (∀ W, Below W4.heap.size W4 W → Calls Try.prog 14 #[.agg #[.string (str code), .slice A1 n1 c1, .int .i64 tick, .int .i64 low, .int .i64 high, .int .i64 wide, .int .i64 rule, .int .i64 top, .int .i64 least, .int .i64 part, .slice A2 n2 c2], .int .i64 k, .int .i64 (tick * a + tick * s)] W fun e w' => e = .returned (.int .i64 0) ∧ Below W.heap.size W w') := Lib.hid (by rw [← Int.mul_add]; exact HPi.out _ hds.1 hds.2.1)
  have HMa : Hid (∀ W, Below W4.heap.size W4 W → Calls Try.prog 14 #[.agg #[.string (str code), .slice A1 n1 c1, .int .i64 tick, .int .i64 low, .int .i64 high, .int .i64 wide, .int .i64 rule, .int .i64 top, .int .i64 least, .int .i64 part, .slice A2 n2 c2], .int .i64 k, .int .i64 (tick * a)] W fun e w' => e = .returned (.int .i64 0) ∧ Below W.heap.size W w') := Lib.hid (HPi.out _ (Int.le_refl _) hds.2.2)
  have HMb : Hid (∀ W, Below W4.heap.size W4 W → Calls Try.prog 14 #[.agg #[.string (str code), .slice A1 n1 c1, .int .i64 tick, .int .i64 low, .int .i64 high, .int .i64 wide, .int .i64 rule, .int .i64 top, .int .i64 least, .int .i64 part, .slice A2 n2 c2], .int .i64 k, .int .i64 (tick * b)] W fun e w' => e = .returned (.int .i64 0) ∧ Below W.heap.size W w') := Lib.hid (HPi.out _ hds.2.2 (Int.le_refl _))
  have HMm : Hid (∀ W, Below W4.heap.size W4 W → Calls Try.prog 14 #[.agg #[.string (str code), .slice A1 n1 c1, .int .i64 tick, .int .i64 low, .int .i64 high, .int .i64 wide, .int .i64 rule, .int .i64 top, .int .i64 least, .int .i64 part, .slice A2 n2 c2], .int .i64 k, .int .i64 (tick * a - tick)] W fun e w' => e = .returned (.int .i64 23) ∧ Below W.heap.size W w') := Lib.hid (by rw [show tick * a - tick = tick * (a - 1) by rw [Int.mul_sub, Int.mul_one]]; exact HPo.out _ (.inl rfl))
  have HMp : Hid (∀ W, Below W4.heap.size W4 W → Calls Try.prog 14 #[.agg #[.string (str code), .slice A1 n1 c1, .int .i64 tick, .int .i64 low, .int .i64 high, .int .i64 wide, .int .i64 rule, .int .i64 top, .int .i64 least, .int .i64 part, .slice A2 n2 c2], .int .i64 k, .int .i64 (tick * b + tick)] W fun e w' => e = .returned (.int .i64 23) ∧ Below W.heap.size W w') := Lib.hid (by rw [show tick * b + tick = tick * (b + 1) by rw [Int.mul_add, Int.mul_one]]; exact HPo.out _ (.inr rfl))
  have HMo : Hid (tick ≠ 1 → ∀ W, Below W4.heap.size W4 W → Calls Try.prog 14 #[.agg #[.string (str code), .slice A1 n1 c1, .int .i64 tick, .int .i64 low, .int .i64 high, .int .i64 wide, .int .i64 rule, .int .i64 top, .int .i64 least, .int .i64 part, .slice A2 n2 c2], .int .i64 k, .int .i64 (tick * a + tick * s + 1)] W fun e w' => e = .returned (.int .i64 22) ∧ Below W.heap.size W w') := Lib.hid (fun hT => by rw [← Int.mul_add]; exact HPf.out hT _ hds.1 hds.2.1)
  have bx2 : -2000 ≤ tick * a + tick * s ∧ tick * a + tick * s ≤ 2000 := by rw [← Int.mul_add]; exact bx1
  have bs := band_bd T1 T2 (show -200 ≤ (s : Int) by omega) (show (s : Int) ≤ 200 by omega)
  have hdiv : (tick * b - tick * a).tdiv tick = (m : Int) := by rw [em, ← Int.mul_sub]; exact Int.mul_tdiv_cancel_left _ (by omega)
  have hdiv2 : (tick * b - tick * a) / tick = (m : Int) := by rw [em, ← Int.mul_sub]; exact Int.mul_ediv_cancel_left _ (by omega)
  obtain ⟨lo, elo⟩ : ∃ x, tick * a = x := ⟨_, rfl⟩
  obtain ⟨hi, ehi⟩ : ∃ x, tick * b = x := ⟨_, rfl⟩
  obtain ⟨ts, ets⟩ : ∃ x, tick * (s : Int) = x := ⟨_, rfl⟩
  rw [elo] at HM0 HMa HMm HMo ba1 bx2 hdiv hdiv2 hlo
  rw [ehi] at HMb HMp bb1 hdiv hdiv2 hhi
  rw [ets] at HM0 HMo bx2 bs
  clear HPi HPo HPf elo ehi bx1 em hds
  replace hlo := Lib.hid hlo
  replace hhi := Lib.hid hhi
  have d1 : decide (((c + 1 : Nat) : Int) < 1) = false := decide_eq_false (by omega)
  go_upto_region 2 with (fail)
  rw [eW4.out]
  clear eW4 emb
  have B0 := Lib.hid (Below.refl W4.heap.size W4)
  obtain ⟨k0, k1, k2, k3, k4, k5, k6, k7, k8, k9, k10⟩ := KK.out W4 B0.out
  go_wp2_with fail
  refine (HC.out W4 B0.out).mono ?_
  rintro e u1 ⟨rfl, bz⟩
  have B1 := Lib.hid (B0.out.trans (bz.mono B0.out.size))
  clear k0 k1 k2 k3 k4 k5 k6 k7 k8 k9 k10 B0 bz
  obtain ⟨k0, k1, k2, k3, k4, k5, k6, k7, k8, k9, k10⟩ := KK.out _ B1.out
  go_wp2_with fail
  refine (HC.out u1 B1.out).mono ?_
  clear HC
  rintro e u2 ⟨rfl, bz⟩
  have B2 := Lib.hid (B1.out.trans (bz.mono B1.out.size))
  clear k0 k1 k2 k3 k4 k5 k6 k7 k8 k9 k10 B1 bz
  obtain ⟨k0, k1, k2, k3, k4, k5, k6, k7, k8, k9, k10⟩ := KK.out _ B2.out
  go_wp2_with fail
  refine (HWi.out _).mono ?_
  rintro e u2 ⟨rfl, rfl⟩
  go_wp2_with fail
  refine (HL.out u2 B2.out).mono ?_
  clear HL
  rintro e u3 ⟨rfl, bz⟩
  have B3 := Lib.hid (B2.out.trans (bz.mono B2.out.size))
  clear k0 k1 k2 k3 k4 k5 k6 k7 k8 k9 k10 B2 bz
  obtain ⟨k0, k1, k2, k3, k4, k5, k6, k7, k8, k9, k10⟩ := KK.out _ B3.out
  clear HWi d1 hw64
  cases sp
  case false =>
    replace hlo := hlo.out
    replace hhi := hhi.out
    replace hlo : low = lo := hlo
    replace hhi : high = hi := hhi
    subst hlo
    subst hhi
    have q1 : IntKind.i64.wrap (high - low) = high - low := wrap_in (by omega) (by omega)
    have q2 : IntKind.i64.wrap ((high - low).tdiv tick) = (m : Int) := by rw [hdiv, wrap_in (by omega) (by omega)]
    have q3 : IntKind.i64.wrap (tick * (s : Int)) = ts := by rw [ets, wrap_in (by omega) (by omega)]
    have q4 : IntKind.i64.wrap (low + ts) = low + ts := wrap_in (by omega) (by omega)
    have hz0 : ¬ tick = 0 := by omega
    go_wp2_with fail
    go_quiet (fail)
    go_wp2_with fail
    go_quiet ((go_at_call 19; refine (HWs.out _).mono ?_; rintro e ux ⟨rfl, rfl⟩; exact ⟨rfl, _, rfl⟩))
    have q5 : IntKind.i64.wrap (low - tick) = low - tick := wrap_in (by omega) (by omega)
    have q6 : IntKind.i64.wrap (high + tick) = high + tick := wrap_in (by omega) (by omega)
    have q7 : IntKind.i64.wrap (low + ts + 1) = low + ts + 1 := wrap_in (by omega) (by omega)
    clear q1 q2 q3 q4 HWs hdiv hdiv2
    go_wp2_with fail
    refine (HM0.out _ (by first | exact below_drewN B3.out _ | exact below_drewN (below_drewN B3.out _) _)).mono ?_
    clear HM0
    rintro e u4 ⟨rfl, bz⟩
    have B4 := Lib.hid (below_step B3.out bz)
    clear k0 k1 k2 k3 k4 k5 k6 k7 k8 k9 k10 B3 bz
    obtain ⟨k0, k1, k2, k3, k4, k5, k6, k7, k8, k9, k10⟩ := KK.out _ B4.out
    go_wp2_with fail
    refine (HMa.out u4 B4.out).mono ?_
    clear HMa
    rintro e u5 ⟨rfl, bz⟩
    have B5 := Lib.hid (B4.out.trans (bz.mono B4.out.size))
    clear k0 k1 k2 k3 k4 k5 k6 k7 k8 k9 k10 B4 bz
    obtain ⟨k0, k1, k2, k3, k4, k5, k6, k7, k8, k9, k10⟩ := KK.out _ B5.out
    go_wp2_with fail
    refine (HMb.out u5 B5.out).mono ?_
    clear HMb
    rintro e u6 ⟨rfl, bz⟩
    have B6 := Lib.hid (B5.out.trans (bz.mono B5.out.size))
    clear k0 k1 k2 k3 k4 k5 k6 k7 k8 k9 k10 B5 bz
    obtain ⟨k0, k1, k2, k3, k4, k5, k6, k7, k8, k9, k10⟩ := KK.out _ B6.out
    go_wp2_with fail
    refine (HMm.out u6 B6.out).mono ?_
    clear HMm
    rintro e u7 ⟨rfl, bz⟩
    have B7 := Lib.hid (B6.out.trans (bz.mono B6.out.size))
    clear k0 k1 k2 k3 k4 k5 k6 k7 k8 k9 k10 B6 bz
    obtain ⟨k0, k1, k2, k3, k4, k5, k6, k7, k8, k9, k10⟩ := KK.out _ B7.out
    go_wp2_with fail
    refine (HMp.out u7 B7.out).mono ?_
    clear HMp
    rintro e u8 ⟨rfl, bz⟩
    have B8 := Lib.hid (B7.out.trans (bz.mono B7.out.size))
    clear k0 k1 k2 k3 k4 k5 k6 k7 k8 k9 k10 B7 bz
    obtain ⟨k0, k1, k2, k3, k4, k5, k6, k7, k8, k9, k10⟩ := KK.out _ B8.out
    by_cases ht : tick = 1
    · have ht1 : (tick == 1) = true := by simp [ht]
      have ht2 : decide (tick = 1) = true := decide_eq_true ht
      clear HMo
      go_wp2_with fail
      refine (Known_any u8).mono ?_
      rintro e u9 ⟨rfl, bz⟩
      have B9 := Lib.hid (B8.out.trans (bz.mono B8.out.size))
      clear k0 k1 k2 k3 k4 k5 k6 k7 k8 k9 k10 B8 bz
      obtain ⟨k0, k1, k2, k3, k4, k5, k6, k7, k8, k9, k10⟩ := KK.out _ B9.out
      go_wp2_with fail
      go_ret
      exact ⟨rfl, HWw.out _ B9.out⟩
    · replace HMo := Lib.hid (HMo.out ht)
      have ht1 : (tick == 1) = false := by simp [ht]
      have ht2 : decide (tick = 1) = false := decide_eq_false ht
      go_wp2_with fail
      refine (HMo.out u8 B8.out).mono ?_
      clear HMo
      rintro e u9 ⟨rfl, bz⟩
      have B9 := Lib.hid (B8.out.trans (bz.mono B8.out.size))
      clear k0 k1 k2 k3 k4 k5 k6 k7 k8 k9 k10 B8 bz
      obtain ⟨k0, k1, k2, k3, k4, k5, k6, k7, k8, k9, k10⟩ := KK.out _ B9.out
      go_wp2_with fail
      refine (Known_any u9).mono ?_
      rintro e u10 ⟨rfl, bz⟩
      have B10 := Lib.hid (B9.out.trans (bz.mono B9.out.size))
      clear k0 k1 k2 k3 k4 k5 k6 k7 k8 k9 k10 B9 bz
      obtain ⟨k0, k1, k2, k3, k4, k5, k6, k7, k8, k9, k10⟩ := KK.out _ B10.out
      go_wp2_with fail
      go_ret
      exact ⟨rfl, HWw.out _ B10.out⟩
  case true =>
    replace hlo := hlo.out
    replace hhi := hhi.out
    replace hlo : -wide = lo := hlo
    replace hhi : wide = hi := hhi
    subst hhi
    have ngw : IntKind.i64.wrap (-wide) = lo := by rw [hlo, wrap_in (by omega) (by omega)]
    have ngx : -wide = lo := hlo
    clear hlo
    have q1 : IntKind.i64.wrap (wide - lo) = wide - lo := wrap_in (by omega) (by omega)
    have q2 : IntKind.i64.wrap ((wide - lo).tdiv tick) = (m : Int) := by rw [hdiv, wrap_in (by omega) (by omega)]
    have q3 : IntKind.i64.wrap (tick * (s : Int)) = ts := by rw [ets, wrap_in (by omega) (by omega)]
    have q4 : IntKind.i64.wrap (lo + ts) = lo + ts := wrap_in (by omega) (by omega)
    have hz0 : ¬ tick = 0 := by omega
    go_wp2_with fail
    go_quiet (fail)
    go_wp2_with fail
    go_quiet (fail)
    go_wp2_with fail
    go_quiet ((go_at_call 19; refine (HWs.out _).mono ?_; rintro e ux ⟨rfl, rfl⟩; exact ⟨rfl, _, rfl⟩))
    have q5 : IntKind.i64.wrap (lo - tick) = lo - tick := wrap_in (by omega) (by omega)
    have q6 : IntKind.i64.wrap (wide + tick) = wide + tick := wrap_in (by omega) (by omega)
    have q7 : IntKind.i64.wrap (lo + ts + 1) = lo + ts + 1 := wrap_in (by omega) (by omega)
    clear q1 q2 q3 q4 HWs hdiv hdiv2
    go_wp2_with fail
    refine (HM0.out _ (by first | exact below_drewN B3.out _ | exact below_drewN (below_drewN B3.out _) _)).mono ?_
    clear HM0
    rintro e u4 ⟨rfl, bz⟩
    have B4 := Lib.hid (below_step B3.out bz)
    clear k0 k1 k2 k3 k4 k5 k6 k7 k8 k9 k10 B3 bz
    obtain ⟨k0, k1, k2, k3, k4, k5, k6, k7, k8, k9, k10⟩ := KK.out _ B4.out
    go_wp2_with fail
    refine (HMa.out u4 B4.out).mono ?_
    clear HMa
    rintro e u5 ⟨rfl, bz⟩
    have B5 := Lib.hid (B4.out.trans (bz.mono B4.out.size))
    clear k0 k1 k2 k3 k4 k5 k6 k7 k8 k9 k10 B4 bz
    obtain ⟨k0, k1, k2, k3, k4, k5, k6, k7, k8, k9, k10⟩ := KK.out _ B5.out
    go_wp2_with fail
    refine (HMb.out u5 B5.out).mono ?_
    clear HMb
    rintro e u6 ⟨rfl, bz⟩
    have B6 := Lib.hid (B5.out.trans (bz.mono B5.out.size))
    clear k0 k1 k2 k3 k4 k5 k6 k7 k8 k9 k10 B5 bz
    obtain ⟨k0, k1, k2, k3, k4, k5, k6, k7, k8, k9, k10⟩ := KK.out _ B6.out
    go_wp2_with fail
    refine (HMm.out u6 B6.out).mono ?_
    clear HMm
    rintro e u7 ⟨rfl, bz⟩
    have B7 := Lib.hid (B6.out.trans (bz.mono B6.out.size))
    clear k0 k1 k2 k3 k4 k5 k6 k7 k8 k9 k10 B6 bz
    obtain ⟨k0, k1, k2, k3, k4, k5, k6, k7, k8, k9, k10⟩ := KK.out _ B7.out
    go_wp2_with fail
    refine (HMp.out u7 B7.out).mono ?_
    clear HMp
    rintro e u8 ⟨rfl, bz⟩
    have B8 := Lib.hid (B7.out.trans (bz.mono B7.out.size))
    clear k0 k1 k2 k3 k4 k5 k6 k7 k8 k9 k10 B7 bz
    obtain ⟨k0, k1, k2, k3, k4, k5, k6, k7, k8, k9, k10⟩ := KK.out _ B8.out
    by_cases ht : tick = 1
    · have ht1 : (tick == 1) = true := by simp [ht]
      have ht2 : decide (tick = 1) = true := decide_eq_true ht
      clear HMo
      go_wp2_with fail
      refine (Known_any u8).mono ?_
      rintro e u9 ⟨rfl, bz⟩
      have B9 := Lib.hid (B8.out.trans (bz.mono B8.out.size))
      clear k0 k1 k2 k3 k4 k5 k6 k7 k8 k9 k10 B8 bz
      obtain ⟨k0, k1, k2, k3, k4, k5, k6, k7, k8, k9, k10⟩ := KK.out _ B9.out
      go_wp2_with fail
      go_ret
      exact ⟨rfl, HWw.out _ B9.out⟩
    · replace HMo := Lib.hid (HMo.out ht)
      have ht1 : (tick == 1) = false := by simp [ht]
      have ht2 : decide (tick = 1) = false := decide_eq_false ht
      go_wp2_with fail
      refine (HMo.out u8 B8.out).mono ?_
      clear HMo
      rintro e u9 ⟨rfl, bz⟩
      have B9 := Lib.hid (B8.out.trans (bz.mono B8.out.size))
      clear k0 k1 k2 k3 k4 k5 k6 k7 k8 k9 k10 B8 bz
      obtain ⟨k0, k1, k2, k3, k4, k5, k6, k7, k8, k9, k10⟩ := KK.out _ B9.out
      go_wp2_with fail
      refine (Known_any u9).mono ?_
      rintro e u10 ⟨rfl, bz⟩
      have B10 := Lib.hid (B9.out.trans (bz.mono B9.out.size))
      clear k0 k1 k2 k3 k4 k5 k6 k7 k8 k9 k10 B9 bz
      obtain ⟨k0, k1, k2, k3, k4, k5, k6, k7, k8, k9, k10⟩ := KK.out _ B10.out
      go_wp2_with fail
      go_ret
      exact ⟨rfl, HWw.out _ B10.out⟩
end Go.Proofs.Ytbigmbpclikenaa
