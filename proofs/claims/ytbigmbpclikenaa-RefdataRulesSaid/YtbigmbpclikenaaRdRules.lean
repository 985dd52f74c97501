/-
  The walk of the law RefdataRules.
-/
import Derived.Test.YtbigmbpclikenaaRdRuleFacts
import Derived.Test.YtbigmbpclikenaaRdLegs
import Derived.Test.YtbigmbpclikenaaRdFind
import Derived.Test.YtbigmbpclikenaaRdCount
import Derived.Test.YtbigmbpclikenaaRdKnown
import Derived.Test.YtbigmbpclikenaaRdNone
import Derived.Deep.RegionHeld3
import Derived.Deep.Cut
namespace Go.Proofs.Ytbigmbpclikenaa
open Go.RowKit
set_option linter.unusedVariables false
set_option linter.unusedSimpArgs false

set_option maxRecDepth 100000 in
set_option maxHeartbeats 1600000 in
theorem Rules_walk (p : PD) (w : World) (h : Hid (p.Fit w)) :
    Calls Try.prog 5 #[p.val] w fun e w' => e = .returned (.bool true) ∧ Below w.heap.size w w' := by
  have HK : Hid (∀ W, Below w.heap.size w W → Calls Try.prog 18 #[p.val] W fun e w' => ∃ q : PD, (chk q = 0 ∧ q.n1 ≤ 5 ∧ q.code = [206, 169] ∧ (∀ i : Nat, q.Q i = 10 * (i : Int) + 3) ∧ q.low ≤ 0 ∧ 0 ≤ q.high) ∧ e = .returned q.val ∧ q.Ok w' ∧ Below W.heap.size W w') := Lib.hid (fun W b => (KProduct_any p W (Lib.hid (h.out.below b))).mono fun e w' ⟨A1, c1, A2, c2, h1, h2, h3⟩ => ⟨_, ⟨keepP_chk p A1 c1 A2 c2, (keepP_n p A1 c1 A2 c2).2.1, rfl, fun i => rfl, (by show -20 * (1 + (withinN p.tick 9 : Int)) ≤ 0; omega), (by show 0 ≤ 100 * (1 + (withinN p.tick 9 : Int)); omega)⟩, h1, h2, h3⟩)
  clear h
  obtain ⟨code, A1, n1, c1, tick, low, high, wide, rule, top, least, part, A2, n2, c2, Q, R⟩ := p
  replace HK : Hid (∀ W, Below w.heap.size w W → Calls Try.prog 18 #[.agg #[.string (str code), .slice A1 n1 c1, .int .i64 tick, .int .i64 low, .int .i64 high, .int .i64 wide, .int .i64 rule, .int .i64 top, .int .i64 least, .int .i64 part, .slice A2 n2 c2]] W fun e w' => ∃ q : PD, (chk q = 0 ∧ q.n1 ≤ 5 ∧ q.code = [206, 169] ∧ (∀ i : Nat, q.Q i = 10 * (i : Int) + 3) ∧ q.low ≤ 0 ∧ 0 ≤ q.high) ∧ e = .returned q.val ∧ q.Ok w' ∧ Below W.heap.size W w') := HK
  show Calls Try.prog 5 #[.agg #[.string (str code), .slice A1 n1 c1, .int .i64 tick, .int .i64 low, .int .i64 high, .int .i64 wide, .int .i64 rule, .int .i64 top, .int .i64 least, .int .i64 part, .slice A2 n2 c2]] w _
  obtain ⟨W0, eW0⟩ : ∃ W0, w.alloc (.cells #[.string (str code), .slice A1 n1 c1, .int .i64 tick, .int .i64 low, .int .i64 high, .int .i64 wide, .int .i64 rule, .int .i64 top, .int .i64 least, .int .i64 part, .slice A2 n2 c2] 25) = W0 := ⟨_, rfl⟩
  obtain ⟨pb, epb⟩ : ∃ pb, w.heap.size = pb := ⟨_, rfl⟩
  have hblk0 : W0.heap[pb]? = some (.cells #[.string (str code), .slice A1 n1 c1, .int .i64 tick, .int .i64 low, .int .i64 high, .int .i64 wide, .int .i64 rule, .int .i64 top, .int .i64 least, .int .i64 part, .slice A2 n2 c2] 25 (0, 0)) := by
    rw [← eW0, ← epb]; exact heap_alloc_new w _
  have hB0 : Below w.heap.size w W0 := by rw [← eW0]; exact (Below.refl _ w).alloc (Nat.le_refl _) _
  have hpb0 : pb < W0.heap.size := (Array.getElem?_eq_some_iff.1 hblk0).1
  have kk : ∀ W : World, W.heap[pb]? = some (.cells #[.string (str code), .slice A1 n1 c1, .int .i64 tick, .int .i64 low, .int .i64 high, .int .i64 wide, .int .i64 rule, .int .i64 top, .int .i64 least, .int .i64 part, .slice A2 n2 c2] 25 (0, 0)) → W.cell? ⟨pb, 0, none⟩ = some (.string (str code)) ∧ W.cell? ⟨pb, 1, none⟩ = some (.slice A1 n1 c1) ∧ W.cell? ⟨pb, 2, none⟩ = some (.int .i64 tick) ∧ W.cell? ⟨pb, 3, none⟩ = some (.int .i64 low) ∧ W.cell? ⟨pb, 4, none⟩ = some (.int .i64 high) ∧ W.cell? ⟨pb, 5, none⟩ = some (.int .i64 wide) ∧ W.cell? ⟨pb, 6, none⟩ = some (.int .i64 rule) ∧ W.cell? ⟨pb, 7, none⟩ = some (.int .i64 top) ∧ W.cell? ⟨pb, 8, none⟩ = some (.int .i64 least) ∧ W.cell? ⟨pb, 9, none⟩ = some (.int .i64 part) ∧ W.cell? ⟨pb, 10, none⟩ = some (.slice A2 n2 c2) := by
    intro W hb
    refine ⟨?_, ?_, ?_, ?_, ?_, ?_, ?_, ?_, ?_, ?_, ?_⟩ <;> (rw [Lib.cell_of_heap hb]; rfl)
  replace kk := Lib.hid kk
  replace eW0 := Lib.hid eW0
  replace epb := Lib.hid epb
  have a0 : (w.alloc (.cells #[.string (str code), .slice A1 n1 c1, .int .i64 tick, .int .i64 low, .int .i64 high, .int .i64 wide, .int .i64 rule, .int .i64 top, .int .i64 least, .int .i64 part, .slice A2 n2 c2] 25)).cell? ⟨w.heap.size, 0, none⟩ = some (.string (str code)) := by
    rw [eW0.out, epb.out]; exact (kk.out W0 hblk0).1
  have a1 : (w.alloc (.cells #[.string (str code), .slice A1 n1 c1, .int .i64 tick, .int .i64 low, .int .i64 high, .int .i64 wide, .int .i64 rule, .int .i64 top, .int .i64 least, .int .i64 part, .slice A2 n2 c2] 25)).cell? ⟨w.heap.size, 1, none⟩ = some (.slice A1 n1 c1) := by
    rw [eW0.out, epb.out]; exact (kk.out W0 hblk0).2.1
  have a2 : (w.alloc (.cells #[.string (str code), .slice A1 n1 c1, .int .i64 tick, .int .i64 low, .int .i64 high, .int .i64 wide, .int .i64 rule, .int .i64 top, .int .i64 least, .int .i64 part, .slice A2 n2 c2] 25)).cell? ⟨w.heap.size, 2, none⟩ = some (.int .i64 tick) := by
    rw [eW0.out, epb.out]; exact (kk.out W0 hblk0).2.2.1
  have a3 : (w.alloc (.cells #[.string (str code), .slice A1 n1 c1, .int .i64 tick, .int .i64 low, .int .i64 high, .int .i64 wide, .int .i64 rule, .int .i64 top, .int .i64 least, .int .i64 part, .slice A2 n2 c2] 25)).cell? ⟨w.heap.size, 3, none⟩ = some (.int .i64 low) := by
    rw [eW0.out, epb.out]; exact (kk.out W0 hblk0).2.2.2.1
  have a4 : (w.alloc (.cells #[.string (str code), .slice A1 n1 c1, .int .i64 tick, .int .i64 low, .int .i64 high, .int .i64 wide, .int .i64 rule, .int .i64 top, .int .i64 least, .int .i64 part, .slice A2 n2 c2] 25)).cell? ⟨w.heap.size, 4, none⟩ = some (.int .i64 high) := by
    rw [eW0.out, epb.out]; exact (kk.out W0 hblk0).2.2.2.2.1
  have a5 : (w.alloc (.cells #[.string (str code), .slice A1 n1 c1, .int .i64 tick, .int .i64 low, .int .i64 high, .int .i64 wide, .int .i64 rule, .int .i64 top, .int .i64 least, .int .i64 part, .slice A2 n2 c2] 25)).cell? ⟨w.heap.size, 5, none⟩ = some (.int .i64 wide) := by
    rw [eW0.out, epb.out]; exact (kk.out W0 hblk0).2.2.2.2.2.1
  have a6 : (w.alloc (.cells #[.string (str code), .slice A1 n1 c1, .int .i64 tick, .int .i64 low, .int .i64 high, .int .i64 wide, .int .i64 rule, .int .i64 top, .int .i64 least, .int .i64 part, .slice A2 n2 c2] 25)).cell? ⟨w.heap.size, 6, none⟩ = some (.int .i64 rule) := by
    rw [eW0.out, epb.out]; exact (kk.out W0 hblk0).2.2.2.2.2.2.1
  have a7 : (w.alloc (.cells #[.string (str code), .slice A1 n1 c1, .int .i64 tick, .int .i64 low, .int .i64 high, .int .i64 wide, .int .i64 rule, .int .i64 top, .int .i64 least, .int .i64 part, .slice A2 n2 c2] 25)).cell? ⟨w.heap.size, 7, none⟩ = some (.int .i64 top) := by
    rw [eW0.out, epb.out]; exact (kk.out W0 hblk0).2.2.2.2.2.2.2.1
  have a8 : (w.alloc (.cells #[.string (str code), .slice A1 n1 c1, .int .i64 tick, .int .i64 low, .int .i64 high, .int .i64 wide, .int .i64 rule, .int .i64 top, .int .i64 least, .int .i64 part, .slice A2 n2 c2] 25)).cell? ⟨w.heap.size, 8, none⟩ = some (.int .i64 least) := by
    rw [eW0.out, epb.out]; exact (kk.out W0 hblk0).2.2.2.2.2.2.2.2.1
  have a9 : (w.alloc (.cells #[.string (str code), .slice A1 n1 c1, .int .i64 tick, .int .i64 low, .int .i64 high, .int .i64 wide, .int .i64 rule, .int .i64 top, .int .i64 least, .int .i64 part, .slice A2 n2 c2] 25)).cell? ⟨w.heap.size, 9, none⟩ = some (.int .i64 part) := by
    rw [eW0.out, epb.out]; exact (kk.out W0 hblk0).2.2.2.2.2.2.2.2.2.1
  have a10 : (w.alloc (.cells #[.string (str code), .slice A1 n1 c1, .int .i64 tick, .int .i64 low, .int .i64 high, .int .i64 wide, .int .i64 rule, .int .i64 top, .int .i64 least, .int .i64 part, .slice A2 n2 c2] 25)).cell? ⟨w.heap.size, 10, none⟩ = some (.slice A2 n2 c2) := by
    rw [eW0.out, epb.out]; exact (kk.out W0 hblk0).2.2.2.2.2.2.2.2.2.2
  go_enter Try.func5, Try.ntmps5
  go_wp2_with fail
  rw [eW0.out]
  rw [epb.out]
  clear a0 a1 a2 a3 a4 a5 a6 a7 a8 a9 a10 eW0
  obtain ⟨k0, k1, k2, k3, k4, k5, k6, k7, k8, k9, k10⟩ := kk.out W0 hblk0
  refine (HK.out W0 hB0).mono ?_
  clear HK
  rintro e w1 ⟨q, hpred, rfl, hOk, b1⟩
  have hB1 := hB0.trans (b1.mono hB0.size)
  clear k0 k1 k2 k3 k4 k5 k6 k7 k8 k9 k10 kk hblk0 hpb0 hB0 b1
  obtain ⟨mb, emb⟩ : ∃ x, w1.heap.size = x := ⟨_, rfl⟩
  obtain ⟨W4, eW4⟩ : ∃ W, w1.alloc (.cells q.cells 25) = W := ⟨_, rfl⟩
  have H4 : W4.heap[mb]? = some (.cells q.cells 25 (0, 0)) := by rw [← eW4, ← emb]; exact heap_alloc_new w1 _
  have hB4 : Below w.heap.size w W4 := by rw [← eW4]; exact hB1.alloc hB1.size _
  have hOk4 : q.Ok W4 := by rw [← eW4]; exact hOk.below ((Below.refl _ w1).alloc (Nat.le_refl _) _)
  have KK : Hid (∀ W, Below W4.heap.size W4 W → W.heap[mb]? = some (.cells q.cells 25 (0, 0))) := Lib.hid (fun W g => (g.block mb (Array.getElem?_eq_some_iff.1 H4).1).trans H4)
  have HWw : Hid (∀ W, Below W4.heap.size W4 W → Below w.heap.size w W) := Lib.hid (fun W g => hB4.trans (g.mono hB4.size))
  clear hOk hB1 H4 hB4
  obtain ⟨hz, h5, hcode, hQ, hlow, hhigh⟩ := hpred
  obtain ⟨cn, ecn⟩ : ∃ c, cntL q = c := ⟨_, rfl⟩
  have hmul := cnt_mul hz
  have hn2 := (chk_zero hz).1
  have c21 := cntL_le q
  rw [ecn] at hmul c21
  obtain ⟨L, eL⟩ : ∃ L, (fun k : Nat => nameL q k) = L := ⟨_, rfl⟩
  have HLg : Hid (∀ k : Nat, k < cn → (k < q.n1 ∧ ∀ W, Below W4.heap.size W4 W → (Calls Try.prog 22 #[q.val, .int .i64 k] W fun e w' => e = .returned (.tuple #[.int .i64 k, .int .i64 k, .bool false]) ∧ Below W.heap.size W w')) ∨ (q.n1 ≤ k ∧ ∃ i j : Nat, i < j ∧ j < q.n1 ∧ ∀ W, Below W4.heap.size W4 W → (Calls Try.prog 22 #[q.val, .int .i64 k] W fun e w' => e = .returned (.tuple #[.int .i64 i, .int .i64 j, .bool true]) ∧ Below W.heap.size W w') ∧ (Calls Try.prog 23 #[q.val, .int .i64 i, .int .i64 j] W fun e w' => e = .returned (.tuple #[.int .i64 k, .bool true]) ∧ Below W.heap.size W w'))) := Lib.hid (fun k hk => by
    rw [← ecn] at hk
    rcases legs_split hk with ⟨h1, e⟩ | ⟨h1, i, j, e, h2, h3⟩
    · refine .inl ⟨h1, fun W g => ?_⟩
      have := PLegs_any q k W (Lib.hid (hOk4.below g)) ⟨by omega, by omega⟩
      rw [e] at this; exact this
    · refine .inr ⟨h1, i, j, h2, h3, fun W g => ⟨?_, ?_⟩⟩
      · have := PLegs_any q k W (Lib.hid (hOk4.below g)) ⟨by omega, by omega⟩
        rw [e] at this; exact this
      · have := PSpreads_any q i j W (Lib.hid (hOk4.below g)) ⟨by omega, by omega⟩ ⟨by omega, by omega⟩
        have e2 := spread_of hk h1
        rw [e] at e2
        rw [show spreadI q (i : Int) (j : Int) = ((k : Int), true) from e2] at this; exact this)
  have HSn : Hid (∀ k : Nat, k < cn → ∀ W, Below W4.heap.size W4 W → Calls Try.prog 23 #[q.val, .int .i64 k, .int .i64 k] W fun e w' => e = .returned (.tuple #[.int .i64 0, .bool false]) ∧ Below W.heap.size W w') := Lib.hid (fun k hk W g => by
    rw [← ecn] at hk
    have := PSpreads_any q k k W (Lib.hid (hOk4.below g)) ⟨by omega, by omega⟩ ⟨by omega, by omega⟩
    rw [spread_none hk] at this; exact this)
  have HNk : Hid (∀ k : Nat, k < cn → ∀ W, Below W4.heap.size W4 W → Calls Try.prog 25 #[q.val, .int .i64 k] W fun e w' => e = .returned (.string (str (L k))) ∧ Below W.heap.size W w') := Lib.hid (fun k hk W g => by rw [← eL]; exact PName_any q k W (Lib.hid (hOk4.below g)) ⟨by omega, by omega⟩)
  have HFk : Hid (∀ k : Nat, k < cn → ∀ W, Below W4.heap.size W4 W → Calls Try.prog 24 #[q.val, .string (str (L k))] W fun e w' => e = .returned (.tuple #[.int .i64 k, .bool true]) ∧ Below W.heap.size W w') := Lib.hid (fun k hk W g => by
    rw [← ecn] at hk
    rw [← eL]
    have := PFind_any q (nameL q k) W (Lib.hid (hOk4.below g))
    rw [find_of hz h5 hcode hQ hk] at this; exact this)
  have HPk : Hid (∀ k : Nat, k < cn → ∀ W, Below W4.heap.size W4 W → Calls Try.prog 14 #[q.val, .int .i64 k, .int .i64 0] W fun e w' => e = .returned (.int .i64 0) ∧ Below W.heap.size W w') := Lib.hid (fun k hk W g => by
    rw [← ecn] at hk
    have := PPrice_any q k 0 W (Lib.hid (hOk4.below g)) ⟨by omega, by omega⟩ ⟨by omega, by omega⟩
    rw [price_zero hz hlow hhigh hk] at this; exact this)
  have HC : Hid (∀ W, Below W4.heap.size W4 W → Calls Try.prog 21 #[q.val] W fun e w' => e = .returned (.int .i64 cn) ∧ Below W.heap.size W w') := Lib.hid (fun W g => by rw [← ecn]; exact PCount_any q W (Lib.hid (hOk4.below g)))
  have HCk : Hid (∀ W, Below W4.heap.size W4 W → Calls Try.prog 13 #[q.val] W fun e w' => e = .returned (.int .i64 0) ∧ Below W.heap.size W w') := Lib.hid (fun W g => by have := PCheck_any q W (Lib.hid (hOk4.below g)); rw [hz] at this; exact this)
  have HNc : Hid (∀ W, Below W4.heap.size W4 W → Calls Try.prog 25 #[q.val, .int .i64 cn] W fun e w' => e = .returned (.string (str [])) ∧ Below W.heap.size W w') := Lib.hid (fun W g => by have := PName_any q cn W (Lib.hid (hOk4.below g)) ⟨by omega, by omega⟩; rw [name_none (by rw [ecn]; omega)] at this; exact this)
  have HNm : Hid (∀ W, Below W4.heap.size W4 W → Calls Try.prog 25 #[q.val, .int .i64 (-1)] W fun e w' => e = .returned (.string (str [])) ∧ Below W.heap.size W w') := Lib.hid (fun W g => by have := PName_any q (-1) W (Lib.hid (hOk4.below g)) ⟨by omega, by omega⟩; rw [name_none (by omega)] at this; exact this)
  have l1 := hOk4.l1
  have m1 := hOk4.m1
  clear hz hcode hQ hlow hhigh eL ecn hOk4
  obtain ⟨code, A1, n1, c1, tick, low, high, wide, rule, top, least, part, A2, n2, c2, Q, R⟩ := q
  replace HC : Hid (∀ W, Below W4.heap.size W4 W → Calls Try.prog 21 #[.agg #[.string (str code), .slice A1 n1 c1, .int .i64 tick, .int .i64 low, .int .i64 high, .int .i64 wide, .int .i64 rule, .int .i64 top, .int .i64 least, .int .i64 part, .slice A2 n2 c2]] W fun e w' => e = .returned (.int .i64 cn) ∧ Below W.heap.size W w') := HC
  replace HCk : Hid (∀ W, Below W4.heap.size W4 W → Calls Try.prog 13 #[.agg #[.string (str code), .slice A1 n1 c1, .int .i64 tick, .int .i64 low, .int .i64 high, .int .i64 wide, .int .i64 rule, .int .i64 top, .int .i64 least, .int .i64 part, .slice A2 n2 c2]] W fun e w' => e = .returned (.int .i64 0) ∧ Below W.heap.size W w') := HCk
  replace HNc : Hid (∀ W, Below W4.heap.size W4 W → Calls Try.prog 25 #[.agg #[.string (str code), .slice A1 n1 c1, .int .i64 tick, .int .i64 low, .int .i64 high, .int .i64 wide, .int .i64 rule, .int .i64 top, .int .i64 least, .int .i64 part, .slice A2 n2 c2], .int .i64 cn] W fun e w' => e = .returned (.string (str [])) ∧ Below W.heap.size W w') := HNc
  replace HNm : Hid (∀ W, Below W4.heap.size W4 W → Calls Try.prog 25 #[.agg #[.string (str code), .slice A1 n1 c1, .int .i64 tick, .int .i64 low, .int .i64 high, .int .i64 wide, .int .i64 rule, .int .i64 top, .int .i64 least, .int .i64 part, .slice A2 n2 c2], .int .i64 (-1)] W fun e w' => e = .returned (.string (str [])) ∧ Below W.heap.size W w') := HNm
  replace KK : Hid (∀ W, Below W4.heap.size W4 W → W.cell? ⟨mb, 0, none⟩ = some (.string (str code)) ∧ W.cell? ⟨mb, 1, none⟩ = some (.slice A1 n1 c1) ∧ W.cell? ⟨mb, 2, none⟩ = some (.int .i64 tick) ∧ W.cell? ⟨mb, 3, none⟩ = some (.int .i64 low) ∧ W.cell? ⟨mb, 4, none⟩ = some (.int .i64 high) ∧ W.cell? ⟨mb, 5, none⟩ = some (.int .i64 wide) ∧ W.cell? ⟨mb, 6, none⟩ = some (.int .i64 rule) ∧ W.cell? ⟨mb, 7, none⟩ = some (.int .i64 top) ∧ W.cell? ⟨mb, 8, none⟩ = some (.int .i64 least) ∧ W.cell? ⟨mb, 9, none⟩ = some (.int .i64 part) ∧ W.cell? ⟨mb, 10, none⟩ = some (.slice A2 n2 c2)) := Lib.hid (fun W g => row11 (KK.out W g))
  replace eW4 : w1.alloc (.cells #[.string (str code), .slice A1 n1 c1, .int .i64 tick, .int .i64 low, .int .i64 high, .int .i64 wide, .int .i64 rule, .int .i64 top, .int .i64 least, .int .i64 part, .slice A2 n2 c2] 25) = W4 := eW4
  replace eW4 := Lib.hid eW4
  rw [show PD.val ⟨code, A1, n1, c1, tick, low, high, wide, rule, top, least, part, A2, n2, c2, Q, R⟩ = .agg #[.string (str code), .slice A1 n1 c1, .int .i64 tick, .int .i64 low, .int .i64 high, .int .i64 wide, .int .i64 rule, .int .i64 top, .int .i64 least, .int .i64 part, .slice A2 n2 c2] from rfl]
  simp only at h5 hmul hn2 l1 m1
  replace HLg : Hid (∀ k : Nat, k < cn → (k < n1 ∧ ∀ W, Below W4.heap.size W4 W → (Calls Try.prog 22 #[.agg #[.string (str code), .slice A1 n1 c1, .int .i64 tick, .int .i64 low, .int .i64 high, .int .i64 wide, .int .i64 rule, .int .i64 top, .int .i64 least, .int .i64 part, .slice A2 n2 c2], .int .i64 k] W fun e w' => e = .returned (.tuple #[.int .i64 k, .int .i64 k, .bool false]) ∧ Below W.heap.size W w')) ∨ (n1 ≤ k ∧ ∃ i j : Nat, i < j ∧ j < n1 ∧ ∀ W, Below W4.heap.size W4 W → (Calls Try.prog 22 #[.agg #[.string (str code), .slice A1 n1 c1, .int .i64 tick, .int .i64 low, .int .i64 high, .int .i64 wide, .int .i64 rule, .int .i64 top, .int .i64 least, .int .i64 part, .slice A2 n2 c2], .int .i64 k] W fun e w' => e = .returned (.tuple #[.int .i64 i, .int .i64 j, .bool true]) ∧ Below W.heap.size W w') ∧ (Calls Try.prog 23 #[.agg #[.string (str code), .slice A1 n1 c1, .int .i64 tick, .int .i64 low, .int .i64 high, .int .i64 wide, .int .i64 rule, .int .i64 top, .int .i64 least, .int .i64 part, .slice A2 n2 c2], .int .i64 i, .int .i64 j] W fun e w' => e = .returned (.tuple #[.int .i64 k, .bool true]) ∧ Below W.heap.size W w'))) := HLg
  replace HSn : Hid (∀ k : Nat, k < cn → ∀ W, Below W4.heap.size W4 W → Calls Try.prog 23 #[.agg #[.string (str code), .slice A1 n1 c1, .int .i64 tick, .int .i64 low, .int .i64 high, .int .i64 wide, .int .i64 rule, .int .i64 top, .int .i64 least, .int .i64 part, .slice A2 n2 c2], .int .i64 k, .int .i64 k] W fun e w' => e = .returned (.tuple #[.int .i64 0, .bool false]) ∧ Below W.heap.size W w') := HSn
  replace HNk : Hid (∀ k : Nat, k < cn → ∀ W, Below W4.heap.size W4 W → Calls Try.prog 25 #[.agg #[.string (str code), .slice A1 n1 c1, .int .i64 tick, .int .i64 low, .int .i64 high, .int .i64 wide, .int .i64 rule, .int .i64 top, .int .i64 least, .int .i64 part, .slice A2 n2 c2], .int .i64 k] W fun e w' => e = .returned (.string (str (L k))) ∧ Below W.heap.size W w') := HNk
  replace HFk : Hid (∀ k : Nat, k < cn → ∀ W, Below W4.heap.size W4 W → Calls Try.prog 24 #[.agg #[.string (str code), .slice A1 n1 c1, .int .i64 tick, .int .i64 low, .int .i64 high, .int .i64 wide, .int .i64 rule, .int .i64 top, .int .i64 least, .int .i64 part, .slice A2 n2 c2], .string (str (L k))] W fun e w' => e = .returned (.tuple #[.int .i64 k, .bool true]) ∧ Below W.heap.size W w') := HFk
  replace HPk : Hid (∀ k : Nat, k < cn → ∀ W, Below W4.heap.size W4 W → Calls Try.prog 14 #[.agg #[.string (str code), .slice A1 n1 c1, .int .i64 tick, .int .i64 low, .int .i64 high, .int .i64 wide, .int .i64 rule, .int .i64 top, .int .i64 least, .int .i64 part, .slice A2 n2 c2], .int .i64 k, .int .i64 0] W fun e w' => e = .returned (.int .i64 0) ∧ Below W.heap.size W w') := HPk
  obtain ⟨hm1, hm2, hm3⟩ := hmul
  have dm1 : ((cn : Int) != ((n1 : Int) * ((n1 : Int) + 1)) / 2) = false := by rw [hm1]; simp
  have dm2 : (cn != n1 * (n1 + 1) / 2) = false := by rw [hm3]; simp
  have dm3 : (n1 : Int) * ((n1 : Int) + 1) ≤ 9223372036854775807 := by omega
  have dm4 : -9223372036854775808 ≤ (n1 : Int) * ((n1 : Int) + 1) := by
    have : 0 ≤ (n1 : Int) * ((n1 : Int) + 1) := Int.mul_nonneg (by omega) (by omega)
    omega
  have dm5 : 0 ≤ (n1 : Int) * ((n1 : Int) + 1) := Int.mul_nonneg (by omega) (by omega)
  replace hm1 := Lib.hid hm1
  replace hm3 := Lib.hid hm3
  clear hm2
  go_upto_region 2 with (fail)
  rw [eW4.out]
  clear eW4 emb
  have B0 := Lib.hid (Below.refl W4.heap.size W4)
  obtain ⟨k0, k1, k2, k3, k4, k5, k6, k7, k8, k9, k10⟩ := KK.out W4 B0.out
  go_wp2_with fail
  refine (HC.out W4 B0.out).mono ?_
  clear HC
  rintro e u1 ⟨rfl, bz⟩
  have B1 := Lib.hid (B0.out.trans (bz.mono B0.out.size))
  clear k0 k1 k2 k3 k4 k5 k6 k7 k8 k9 k10 B0 bz
  obtain ⟨k0, k1, k2, k3, k4, k5, k6, k7, k8, k9, k10⟩ := KK.out _ B1.out
  go_wp2_with fail
  refine (HCk.out u1 B1.out).mono ?_
  clear HCk
  rintro e u2 ⟨rfl, bz⟩
  have B2 := Lib.hid (B1.out.trans (bz.mono B1.out.size))
  clear k0 k1 k2 k3 k4 k5 k6 k7 k8 k9 k10 B1 bz
  obtain ⟨k0, k1, k2, k3, k4, k5, k6, k7, k8, k9, k10⟩ := KK.out _ B2.out
  have hSof : Hid (∀ W W' : World, (fun W => W.cell? ⟨mb, 0, none⟩ = some (.string (str code)) ∧ W.cell? ⟨mb, 1, none⟩ = some (.slice A1 n1 c1) ∧ W.cell? ⟨mb, 2, none⟩ = some (.int .i64 tick) ∧ W.cell? ⟨mb, 3, none⟩ = some (.int .i64 low) ∧ W.cell? ⟨mb, 4, none⟩ = some (.int .i64 high) ∧ W.cell? ⟨mb, 5, none⟩ = some (.int .i64 wide) ∧ W.cell? ⟨mb, 6, none⟩ = some (.int .i64 rule) ∧ W.cell? ⟨mb, 7, none⟩ = some (.int .i64 top) ∧ W.cell? ⟨mb, 8, none⟩ = some (.int .i64 least) ∧ W.cell? ⟨mb, 9, none⟩ = some (.int .i64 part) ∧ W.cell? ⟨mb, 10, none⟩ = some (.slice A2 n2 c2) ∧ Below W4.heap.size W4 W) W → Below W.heap.size W W' → (fun W => W.cell? ⟨mb, 0, none⟩ = some (.string (str code)) ∧ W.cell? ⟨mb, 1, none⟩ = some (.slice A1 n1 c1) ∧ W.cell? ⟨mb, 2, none⟩ = some (.int .i64 tick) ∧ W.cell? ⟨mb, 3, none⟩ = some (.int .i64 low) ∧ W.cell? ⟨mb, 4, none⟩ = some (.int .i64 high) ∧ W.cell? ⟨mb, 5, none⟩ = some (.int .i64 wide) ∧ W.cell? ⟨mb, 6, none⟩ = some (.int .i64 rule) ∧ W.cell? ⟨mb, 7, none⟩ = some (.int .i64 top) ∧ W.cell? ⟨mb, 8, none⟩ = some (.int .i64 least) ∧ W.cell? ⟨mb, 9, none⟩ = some (.int .i64 part) ∧ W.cell? ⟨mb, 10, none⟩ = some (.slice A2 n2 c2) ∧ Below W4.heap.size W4 W) W') := Lib.hid (fun W W' h b => ⟨(b.cell (World.block_lt_of_cell? W _ h.1)).trans h.1, (b.cell (World.block_lt_of_cell? W _ h.2.1)).trans h.2.1, (b.cell (World.block_lt_of_cell? W _ h.2.2.1)).trans h.2.2.1, (b.cell (World.block_lt_of_cell? W _ h.2.2.2.1)).trans h.2.2.2.1, (b.cell (World.block_lt_of_cell? W _ h.2.2.2.2.1)).trans h.2.2.2.2.1, (b.cell (World.block_lt_of_cell? W _ h.2.2.2.2.2.1)).trans h.2.2.2.2.2.1, (b.cell (World.block_lt_of_cell? W _ h.2.2.2.2.2.2.1)).trans h.2.2.2.2.2.2.1, (b.cell (World.block_lt_of_cell? W _ h.2.2.2.2.2.2.2.1)).trans h.2.2.2.2.2.2.2.1, (b.cell (World.block_lt_of_cell? W _ h.2.2.2.2.2.2.2.2.1)).trans h.2.2.2.2.2.2.2.2.1, (b.cell (World.block_lt_of_cell? W _ h.2.2.2.2.2.2.2.2.2.1)).trans h.2.2.2.2.2.2.2.2.2.1, (b.cell (World.block_lt_of_cell? W _ h.2.2.2.2.2.2.2.2.2.2.1)).trans h.2.2.2.2.2.2.2.2.2.2.1, h.2.2.2.2.2.2.2.2.2.2.2.trans (b.mono h.2.2.2.2.2.2.2.2.2.2.2.size)⟩)
  go_wp2_with fail
  go_loopw [6] (fun kv wr => ∃ k : Nat, kv = .int .i64 k ∧ k ≤ cn ∧ Hid (Below W4.heap.size W4 wr)) (fun k _ => cn - (intOf k).toNat)
  case atStart => exact ⟨0, rfl, by omega, B2⟩
  case round =>
    clear B2 k0 k1 k2 k3 k4 k5 k6 k7 k8 k9 k10
    obtain ⟨k, rfl, hk, B0⟩ := hrel
    obtain ⟨k0, k1, k2, k3, k4, k5, k6, k7, k8, k9, k10⟩ := KK.out _ B0.out
    by_cases hlt : k < cn
    case pos =>
      have e1 : decide ((k : Int) < (cn : Int)) = true := decide_eq_true (by omega)
      have e1x : decide (k < cn) = true := decide_eq_true hlt
      have HFx := Lib.hid (HFk.out k hlt)
      have HNx := Lib.hid (HNk.out k hlt)
      have HPx := Lib.hid (HPk.out k hlt)
      have HSx := Lib.hid (HSn.out k hlt)
      have hways := HLg.out k hlt
      obtain ⟨lk, elk⟩ : ∃ x, L k = x := ⟨_, rfl⟩
      rw [elk] at HFx HNx
      clear elk
      rcases hways with ⟨hkn, HL⟩ | ⟨hkn, i, j, hij, hjn, HLS⟩
      · skip
        replace HL := Lib.hid HL
        have g1 : decide ((n1 : Int) ≤ (k : Int)) = false := decide_eq_false (by omega)
        have g1x : decide (n1 ≤ k) = false := decide_eq_false (by omega)
        have g2 : decide ((k : Int) < 0) = false := decide_eq_false (by omega)
        have g3 : ((k : Int) != (k : Int)) = false := by simp
        have g3x : (k != k) = false := by simp
        go_wp2_with fail
        refine (HL.out wr B0.out).mono ?_
        clear HL
        rintro e u1 ⟨rfl, bz⟩
        have B1 := Lib.hid (B0.out.trans (bz.mono B0.out.size))
        clear k0 k1 k2 k3 k4 k5 k6 k7 k8 k9 k10 B0 bz
        obtain ⟨k0, k1, k2, k3, k4, k5, k6, k7, k8, k9, k10⟩ := KK.out _ B1.out
        go_wp2_with fail
        refine (HSx.out u1 B1.out).mono ?_
        clear HSx
        rintro e u2 ⟨rfl, bz⟩
        have B2 := Lib.hid (B1.out.trans (bz.mono B1.out.size))
        clear k0 k1 k2 k3 k4 k5 k6 k7 k8 k9 k10 B1 bz
        obtain ⟨k0, k1, k2, k3, k4, k5, k6, k7, k8, k9, k10⟩ := KK.out _ B2.out
        have HNy : Hid (∀ W, (fun W => W.cell? ⟨mb, 0, none⟩ = some (.string (str code)) ∧ W.cell? ⟨mb, 1, none⟩ = some (.slice A1 n1 c1) ∧ W.cell? ⟨mb, 2, none⟩ = some (.int .i64 tick) ∧ W.cell? ⟨mb, 3, none⟩ = some (.int .i64 low) ∧ W.cell? ⟨mb, 4, none⟩ = some (.int .i64 high) ∧ W.cell? ⟨mb, 5, none⟩ = some (.int .i64 wide) ∧ W.cell? ⟨mb, 6, none⟩ = some (.int .i64 rule) ∧ W.cell? ⟨mb, 7, none⟩ = some (.int .i64 top) ∧ W.cell? ⟨mb, 8, none⟩ = some (.int .i64 least) ∧ W.cell? ⟨mb, 9, none⟩ = some (.int .i64 part) ∧ W.cell? ⟨mb, 10, none⟩ = some (.slice A2 n2 c2) ∧ Below W4.heap.size W4 W) W → Calls Try.prog 25 #[.agg #[.string (str code), .slice A1 n1 c1, .int .i64 tick, .int .i64 low, .int .i64 high, .int .i64 wide, .int .i64 rule, .int .i64 top, .int .i64 least, .int .i64 part, .slice A2 n2 c2], .int .i64 k] W fun e w' => e = .returned (.string (str lk)) ∧ Below W.heap.size W w') := Lib.hid (fun W g => HNx.out W g.2.2.2.2.2.2.2.2.2.2.2)
        have HFy : Hid (∀ W, (fun W => W.cell? ⟨mb, 0, none⟩ = some (.string (str code)) ∧ W.cell? ⟨mb, 1, none⟩ = some (.slice A1 n1 c1) ∧ W.cell? ⟨mb, 2, none⟩ = some (.int .i64 tick) ∧ W.cell? ⟨mb, 3, none⟩ = some (.int .i64 low) ∧ W.cell? ⟨mb, 4, none⟩ = some (.int .i64 high) ∧ W.cell? ⟨mb, 5, none⟩ = some (.int .i64 wide) ∧ W.cell? ⟨mb, 6, none⟩ = some (.int .i64 rule) ∧ W.cell? ⟨mb, 7, none⟩ = some (.int .i64 top) ∧ W.cell? ⟨mb, 8, none⟩ = some (.int .i64 least) ∧ W.cell? ⟨mb, 9, none⟩ = some (.int .i64 part) ∧ W.cell? ⟨mb, 10, none⟩ = some (.slice A2 n2 c2) ∧ Below W4.heap.size W4 W) W → Calls Try.prog 24 #[.agg #[.string (str code), .slice A1 n1 c1, .int .i64 tick, .int .i64 low, .int .i64 high, .int .i64 wide, .int .i64 rule, .int .i64 top, .int .i64 least, .int .i64 part, .slice A2 n2 c2], .string (str lk)] W fun e w' => e = .returned (.tuple #[.int .i64 k, .bool true]) ∧ Below W.heap.size W w') := Lib.hid (fun W g => HFx.out W g.2.2.2.2.2.2.2.2.2.2.2)
        have hz0 := hSof.out _ _ (show (fun W => W.cell? ⟨mb, 0, none⟩ = some (.string (str code)) ∧ W.cell? ⟨mb, 1, none⟩ = some (.slice A1 n1 c1) ∧ W.cell? ⟨mb, 2, none⟩ = some (.int .i64 tick) ∧ W.cell? ⟨mb, 3, none⟩ = some (.int .i64 low) ∧ W.cell? ⟨mb, 4, none⟩ = some (.int .i64 high) ∧ W.cell? ⟨mb, 5, none⟩ = some (.int .i64 wide) ∧ W.cell? ⟨mb, 6, none⟩ = some (.int .i64 rule) ∧ W.cell? ⟨mb, 7, none⟩ = some (.int .i64 top) ∧ W.cell? ⟨mb, 8, none⟩ = some (.int .i64 least) ∧ W.cell? ⟨mb, 9, none⟩ = some (.int .i64 part) ∧ W.cell? ⟨mb, 10, none⟩ = some (.slice A2 n2 c2) ∧ Below W4.heap.size W4 W) u2 from ⟨k0, k1, k2, k3, k4, k5, k6, k7, k8, k9, k10, B2.out⟩) ((Below.refl _ u2).drew)
        (try simp only at hz0)
        clear k0 k1 k2 k3 k4 k5 k6 k7 k8 k9 k10 B2 HNx HFx
        go_upto_region 15 with (fail)
        go_region_held3 (fun W => W.cell? ⟨mb, 0, none⟩ = some (.string (str code)) ∧ W.cell? ⟨mb, 1, none⟩ = some (.slice A1 n1 c1) ∧ W.cell? ⟨mb, 2, none⟩ = some (.int .i64 tick) ∧ W.cell? ⟨mb, 3, none⟩ = some (.int .i64 low) ∧ W.cell? ⟨mb, 4, none⟩ = some (.int .i64 high) ∧ W.cell? ⟨mb, 5, none⟩ = some (.int .i64 wide) ∧ W.cell? ⟨mb, 6, none⟩ = some (.int .i64 rule) ∧ W.cell? ⟨mb, 7, none⟩ = some (.int .i64 top) ∧ W.cell? ⟨mb, 8, none⟩ = some (.int .i64 least) ∧ W.cell? ⟨mb, 9, none⟩ = some (.int .i64 part) ∧ W.cell? ⟨mb, 10, none⟩ = some (.slice A2 n2 c2) ∧ Below W4.heap.size W4 W) (first | with_reducible assumption | with_reducible exact hz0)
          ((first
            | (go_at_call 25; refine (HNy.out _ (by with_reducible assumption)).mono ?_; rintro e ua ⟨rfl, bz⟩; have hza := hSof.out _ _ (by with_reducible assumption) bz; clear bz)
            | (go_at_call 24; refine (HFy.out _ (by with_reducible assumption)).mono ?_; rintro e u3 ⟨rfl, bz⟩; have hzb := hSof.out _ _ (by with_reducible assumption) bz; clear bz)))
        have B3 := Lib.hid hzb.2.2.2.2.2.2.2.2.2.2.2
        clear hz0 hza hzb HNy HFy
        obtain ⟨k0, k1, k2, k3, k4, k5, k6, k7, k8, k9, k10⟩ := KK.out _ B3.out
        have g9 : ((k : Int) != (k : Int)) = false := by simp
        have g9x : (k != k) = false := by simp
        go_wp2_with fail
        refine (HPx.out u3 B3.out).mono ?_
        clear HPx
        rintro e u4 ⟨rfl, bz⟩
        have B4 := Lib.hid (B3.out.trans (bz.mono B3.out.size))
        clear k0 k1 k2 k3 k4 k5 k6 k7 k8 k9 k10 B3 bz
        obtain ⟨k0, k1, k2, k3, k4, k5, k6, k7, k8, k9, k10⟩ := KK.out _ B4.out
        go_wp2_with fail
        go_roundw
        case rel => exact ⟨k + 1, by go_num, by omega, B4⟩
        case measure => simp [intOf]; omega
      · skip
        have HL : Hid (∀ W, Below W4.heap.size W4 W → _) := Lib.hid (fun W g => (HLS W g).1)
        have HS2 : Hid (∀ W, Below W4.heap.size W4 W → _) := Lib.hid (fun W g => (HLS W g).2)
        clear HLS
        have g1 : decide ((n1 : Int) ≤ (k : Int)) = true := decide_eq_true (by omega)
        have g1x : decide (n1 ≤ k) = true := decide_eq_true hkn
        have g2 : decide ((i : Int) < 0) = false := decide_eq_false (by omega)
        have g4 : decide ((n1 : Int) ≤ (j : Int)) = false := decide_eq_false (by omega)
        have g4x : decide (n1 ≤ j) = false := decide_eq_false (by omega)
        have g5 : decide ((j : Int) ≤ (i : Int)) = false := decide_eq_false (by omega)
        have g5x : decide (j ≤ i) = false := decide_eq_false (by omega)
        have g3 : ((k : Int) != (k : Int)) = false := by simp
        have g3x : (k != k) = false := by simp
        go_wp2_with fail
        refine (HL.out wr B0.out).mono ?_
        clear HL
        rintro e u1 ⟨rfl, bz⟩
        have B1 := Lib.hid (B0.out.trans (bz.mono B0.out.size))
        clear k0 k1 k2 k3 k4 k5 k6 k7 k8 k9 k10 B0 bz
        obtain ⟨k0, k1, k2, k3, k4, k5, k6, k7, k8, k9, k10⟩ := KK.out _ B1.out
        go_wp2_with fail
        refine (HS2.out u1 B1.out).mono ?_
        clear HS2
        rintro e u2 ⟨rfl, bz⟩
        have B2 := Lib.hid (B1.out.trans (bz.mono B1.out.size))
        clear k0 k1 k2 k3 k4 k5 k6 k7 k8 k9 k10 B1 bz
        obtain ⟨k0, k1, k2, k3, k4, k5, k6, k7, k8, k9, k10⟩ := KK.out _ B2.out
        have HNy : Hid (∀ W, (fun W => W.cell? ⟨mb, 0, none⟩ = some (.string (str code)) ∧ W.cell? ⟨mb, 1, none⟩ = some (.slice A1 n1 c1) ∧ W.cell? ⟨mb, 2, none⟩ = some (.int .i64 tick) ∧ W.cell? ⟨mb, 3, none⟩ = some (.int .i64 low) ∧ W.cell? ⟨mb, 4, none⟩ = some (.int .i64 high) ∧ W.cell? ⟨mb, 5, none⟩ = some (.int .i64 wide) ∧ W.cell? ⟨mb, 6, none⟩ = some (.int .i64 rule) ∧ W.cell? ⟨mb, 7, none⟩ = some (.int .i64 top) ∧ W.cell? ⟨mb, 8, none⟩ = some (.int .i64 least) ∧ W.cell? ⟨mb, 9, none⟩ = some (.int .i64 part) ∧ W.cell? ⟨mb, 10, none⟩ = some (.slice A2 n2 c2) ∧ Below W4.heap.size W4 W) W → Calls Try.prog 25 #[.agg #[.string (str code), .slice A1 n1 c1, .int .i64 tick, .int .i64 low, .int .i64 high, .int .i64 wide, .int .i64 rule, .int .i64 top, .int .i64 least, .int .i64 part, .slice A2 n2 c2], .int .i64 k] W fun e w' => e = .returned (.string (str lk)) ∧ Below W.heap.size W w') := Lib.hid (fun W g => HNx.out W g.2.2.2.2.2.2.2.2.2.2.2)
        have HFy : Hid (∀ W, (fun W => W.cell? ⟨mb, 0, none⟩ = some (.string (str code)) ∧ W.cell? ⟨mb, 1, none⟩ = some (.slice A1 n1 c1) ∧ W.cell? ⟨mb, 2, none⟩ = some (.int .i64 tick) ∧ W.cell? ⟨mb, 3, none⟩ = some (.int .i64 low) ∧ W.cell? ⟨mb, 4, none⟩ = some (.int .i64 high) ∧ W.cell? ⟨mb, 5, none⟩ = some (.int .i64 wide) ∧ W.cell? ⟨mb, 6, none⟩ = some (.int .i64 rule) ∧ W.cell? ⟨mb, 7, none⟩ = some (.int .i64 top) ∧ W.cell? ⟨mb, 8, none⟩ = some (.int .i64 least) ∧ W.cell? ⟨mb, 9, none⟩ = some (.int .i64 part) ∧ W.cell? ⟨mb, 10, none⟩ = some (.slice A2 n2 c2) ∧ Below W4.heap.size W4 W) W → Calls Try.prog 24 #[.agg #[.string (str code), .slice A1 n1 c1, .int .i64 tick, .int .i64 low, .int .i64 high, .int .i64 wide, .int .i64 rule, .int .i64 top, .int .i64 least, .int .i64 part, .slice A2 n2 c2], .string (str lk)] W fun e w' => e = .returned (.tuple #[.int .i64 k, .bool true]) ∧ Below W.heap.size W w') := Lib.hid (fun W g => HFx.out W g.2.2.2.2.2.2.2.2.2.2.2)
        have hz0 := hSof.out _ _ (show (fun W => W.cell? ⟨mb, 0, none⟩ = some (.string (str code)) ∧ W.cell? ⟨mb, 1, none⟩ = some (.slice A1 n1 c1) ∧ W.cell? ⟨mb, 2, none⟩ = some (.int .i64 tick) ∧ W.cell? ⟨mb, 3, none⟩ = some (.int .i64 low) ∧ W.cell? ⟨mb, 4, none⟩ = some (.int .i64 high) ∧ W.cell? ⟨mb, 5, none⟩ = some (.int .i64 wide) ∧ W.cell? ⟨mb, 6, none⟩ = some (.int .i64 rule) ∧ W.cell? ⟨mb, 7, none⟩ = some (.int .i64 top) ∧ W.cell? ⟨mb, 8, none⟩ = some (.int .i64 least) ∧ W.cell? ⟨mb, 9, none⟩ = some (.int .i64 part) ∧ W.cell? ⟨mb, 10, none⟩ = some (.slice A2 n2 c2) ∧ Below W4.heap.size W4 W) u2 from ⟨k0, k1, k2, k3, k4, k5, k6, k7, k8, k9, k10, B2.out⟩) ((Below.refl _ u2).drew)
        (try simp only at hz0)
        clear k0 k1 k2 k3 k4 k5 k6 k7 k8 k9 k10 B2 HNx HFx
        go_upto_region 15 with (fail)
        go_region_held3 (fun W => W.cell? ⟨mb, 0, none⟩ = some (.string (str code)) ∧ W.cell? ⟨mb, 1, none⟩ = some (.slice A1 n1 c1) ∧ W.cell? ⟨mb, 2, none⟩ = some (.int .i64 tick) ∧ W.cell? ⟨mb, 3, none⟩ = some (.int .i64 low) ∧ W.cell? ⟨mb, 4, none⟩ = some (.int .i64 high) ∧ W.cell? ⟨mb, 5, none⟩ = some (.int .i64 wide) ∧ W.cell? ⟨mb, 6, none⟩ = some (.int .i64 rule) ∧ W.cell? ⟨mb, 7, none⟩ = some (.int .i64 top) ∧ W.cell? ⟨mb, 8, none⟩ = some (.int .i64 least) ∧ W.cell? ⟨mb, 9, none⟩ = some (.int .i64 part) ∧ W.cell? ⟨mb, 10, none⟩ = some (.slice A2 n2 c2) ∧ Below W4.heap.size W4 W) (first | with_reducible assumption | with_reducible exact hz0)
          ((first
            | (go_at_call 25; refine (HNy.out _ (by with_reducible assumption)).mono ?_; rintro e ua ⟨rfl, bz⟩; have hza := hSof.out _ _ (by with_reducible assumption) bz; clear bz)
            | (go_at_call 24; refine (HFy.out _ (by with_reducible assumption)).mono ?_; rintro e u3 ⟨rfl, bz⟩; have hzb := hSof.out _ _ (by with_reducible assumption) bz; clear bz)))
        have B3 := Lib.hid hzb.2.2.2.2.2.2.2.2.2.2.2
        clear hz0 hza hzb HNy HFy
        obtain ⟨k0, k1, k2, k3, k4, k5, k6, k7, k8, k9, k10⟩ := KK.out _ B3.out
        have g9 : ((k : Int) != (k : Int)) = false := by simp
        have g9x : (k != k) = false := by simp
        go_wp2_with fail
        refine (HPx.out u3 B3.out).mono ?_
        clear HPx
        rintro e u4 ⟨rfl, bz⟩
        have B4 := Lib.hid (B3.out.trans (bz.mono B3.out.size))
        clear k0 k1 k2 k3 k4 k5 k6 k7 k8 k9 k10 B3 bz
        obtain ⟨k0, k1, k2, k3, k4, k5, k6, k7, k8, k9, k10⟩ := KK.out _ B4.out
        go_wp2_with fail
        go_roundw
        case rel => exact ⟨k + 1, by go_num, by omega, B4⟩
        case measure => simp [intOf]; omega
    case neg =>
      obtain rfl : cn = k := by omega
      have e1 : decide ((cn : Int) < (cn : Int)) = false := decide_eq_false (by omega)
      have e1x : decide (cn < cn) = false := decide_eq_false (by omega)
      clear HLg HSn HNk HFk HPk hSof
      have hnl : ((str []).toList == []) = true := by rw [ByteArray.toList_eq]; rfl
      have hnl2 : (str []).toList = [] := by rw [ByteArray.toList_eq]; rfl
      go_wp2_with fail
      refine (HNc.out wr B0.out).mono ?_
      clear HNc
      rintro e u1 ⟨rfl, bz⟩
      have B1 := Lib.hid (B0.out.trans (bz.mono B0.out.size))
      clear k0 k1 k2 k3 k4 k5 k6 k7 k8 k9 k10 B0 bz
      obtain ⟨k0, k1, k2, k3, k4, k5, k6, k7, k8, k9, k10⟩ := KK.out _ B1.out
      go_wp2_with fail
      refine (HNm.out u1 B1.out).mono ?_
      clear HNm
      rintro e u2 ⟨rfl, bz⟩
      have B2 := Lib.hid (B1.out.trans (bz.mono B1.out.size))
      clear k0 k1 k2 k3 k4 k5 k6 k7 k8 k9 k10 B1 bz
      obtain ⟨k0, k1, k2, k3, k4, k5, k6, k7, k8, k9, k10⟩ := KK.out _ B2.out
      go_wp2_with fail
      refine (Known_any u2).mono ?_
      rintro e u3 ⟨rfl, bz⟩
      have B3 := Lib.hid (B2.out.trans (bz.mono B2.out.size))
      clear k0 k1 k2 k3 k4 k5 k6 k7 k8 k9 k10 B2 bz
      obtain ⟨k0, k1, k2, k3, k4, k5, k6, k7, k8, k9, k10⟩ := KK.out _ B3.out
      go_wp2_with fail
      go_ret
      exact ⟨rfl, HWw.out _ B3.out⟩
end Go.Proofs.Ytbigmbpclikenaa
