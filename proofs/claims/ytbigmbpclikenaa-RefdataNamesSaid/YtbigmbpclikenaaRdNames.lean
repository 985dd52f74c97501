/-
  The walk of the law RefdataNames.
-/
import Derived.Test.YtbigmbpclikenaaRdRight
import Derived.Test.YtbigmbpclikenaaRdLegs
import Derived.Test.YtbigmbpclikenaaRdFind
import Derived.Test.YtbigmbpclikenaaRdCount
import Derived.Test.YtbigmbpclikenaaRdKnown
import Derived.Test.YtbigmbpclikenaaRdNone
import Derived.Deep.RegionHeld3
import Derived.Deep.Cut
namespace Go.Proofs.Ytbigmbpclikenaa
open Go.RowKit
set_option linter.unusedVariables false
set_option linter.unusedSimpArgs false

set_option maxRecDepth 100000 in
set_option maxHeartbeats 1600000 in
theorem Names_walk (p : PD) (inst : Int) (l : List UInt8) (w : World) (h : Hid (p.Fit w)) (hin : I64 inst) :
    Calls Try.prog 7 #[p.val, .int .i64 inst, .string (str l)] w fun e w' => e = .returned (.bool true) ∧ Below w.heap.size w w' := by
  have HK : Hid (∀ W, Below w.heap.size w W → Calls Try.prog 18 #[p.val] W fun e w' => ∃ q : PD, (chk q = 0) ∧ e = .returned q.val ∧ q.Ok w' ∧ Below W.heap.size W w') := Lib.hid (fun W b => (KProduct_any p W (Lib.hid (h.out.below b))).mono fun e w' ⟨A1, c1, A2, c2, h1, h2, h3⟩ => ⟨_, keepP_chk p A1 c1 A2 c2, h1, h2, h3⟩)
  clear h
  obtain ⟨code, A1, n1, c1, tick, low, high, wide, rule, top, least, part, A2, n2, c2, Q, R⟩ := p
  replace HK : Hid (∀ W, Below w.heap.size w W → Calls Try.prog 18 #[.agg #[.string (str code), .slice A1 n1 c1, .int .i64 tick, .int .i64 low, .int .i64 high, .int .i64 wide, .int .i64 rule, .int .i64 top, .int .i64 least, .int .i64 part, .slice A2 n2 c2]] W fun e w' => ∃ q : PD, (chk q = 0) ∧ e = .returned q.val ∧ q.Ok w' ∧ Below W.heap.size W w') := HK
  show Calls Try.prog 7 #[.agg #[.string (str code), .slice A1 n1 c1, .int .i64 tick, .int .i64 low, .int .i64 high, .int .i64 wide, .int .i64 rule, .int .i64 top, .int .i64 least, .int .i64 part, .slice A2 n2 c2], .int .i64 inst, .string (str l)] w _
  obtain ⟨W0, eW0⟩ : ∃ W0, w.alloc (.cells #[.string (str code), .slice A1 n1 c1, .int .i64 tick, .int .i64 low, .int .i64 high, .int .i64 wide, .int .i64 rule, .int .i64 top, .int .i64 least, .int .i64 part, .slice A2 n2 c2] 25) = W0 := ⟨_, rfl⟩
  obtain ⟨pb, epb⟩ : ∃ pb, w.heap.size = pb := ⟨_, rfl⟩
  have hblk0 : W0.heap[pb]? = some (.cells #[.string (str code), .slice A1 n1 c1, .int .i64 tick, .int .i64 low, .int .i64 high, .int .i64 wide, .int .i64 rule, .int .i64 top, .int .i64 least, .int .i64 part, .slice A2 n2 c2] 25 (0, 0)) := by
    rw [← eW0, ← epb]; exact heap_alloc_new w _
  have hB0 : Below w.heap.size w W0 := by rw [← eW0]; exact (Below.refl _ w).alloc (Nat.le_refl _) _
  have hpb0 : pb < W0.heap.size := (Array.getElem?_eq_some_iff.1 hblk0).1
  have kk : ∀ W : World, W.heap[pb]? = some (.cells #[.string (str code), .slice A1 n1 c1, .int .i64 tick, .int .i64 low, .int .i64 high, .int .i64 wide, .int .i64 rule, .int .i64 top, .int .i64 least, .int .i64 part, .slice A2 n2 c2] 25 (0, 0)) → W.cell? ⟨pb, 0, none⟩ = some (.string (str code)) ∧ W.cell? ⟨pb, 1, none⟩ = some (.slice A1 n1 c1) ∧ W.cell? ⟨pb, 2, none⟩ = some (.int .i64 tick) ∧ W.cell? ⟨pb, 3, none⟩ = some (.int .i64 low) ∧ W.cell? ⟨pb, 4, none⟩ = some (.int .i64 high) ∧ W.cell? ⟨pb, 5, none⟩ = some (.int .i64 wide) ∧ W.cell? ⟨pb, 6, none⟩ = some (.int .i64 rule) ∧ W.cell? ⟨pb, 7, none⟩ = some (.int .i64 top) ∧ W.cell? ⟨pb, 8, none⟩ = some (.int .i64 least) ∧ W.cell? ⟨pb, 9, none⟩ = some (.int .i64 part) ∧ W.cell? ⟨pb, 10, none⟩ = some (.slice A2 n2 c2) := by
    intro W hb
    refine ⟨?_, ?_, ?_, ?_, ?_, ?_, ?_, ?_, ?_, ?_, ?_⟩ <;> (rw [Lib.cell_of_heap hb]; rfl)
  replace kk := Lib.hid kk
  replace eW0 := Lib.hid eW0
  replace epb := Lib.hid epb
  have a0 : (w.alloc (.cells #[.string (str code), .slice A1 n1 c1, .int .i64 tick, .int .i64 low, .int .i64 high, .int .i64 wide, .int .i64 rule, .int .i64 top, .int .i64 least, .int .i64 part, .slice A2 n2 c2] 25)).cell? ⟨w.heap.size, 0, none⟩ = some (.string (str code)) := by
    rw [eW0.out, epb.out]; exact (kk.out W0 hblk0).1
  have a1 : (w.alloc (.cells #[.string (str code), .slice A1 n1 c1, .int .i64 tick, .int .i64 low, .int .i64 high, .int .i64 wide, .int .i64 rule, .int .i64 top, .int .i64 least, .int .i64 part, .slice A2 n2 c2] 25)).cell? ⟨w.heap.size, 1, none⟩ = some (.slice A1 n1 c1) := by
    rw [eW0.out, epb.out]; exact (kk.out W0 hblk0).2.1
  have a2 : (w.alloc (.cells #[.string (str code), .slice A1 n1 c1, .int .i64 tick, .int .i64 low, .int .i64 high, .int .i64 wide, .int .i64 rule, .int .i64 top, .int .i64 least, .int .i64 part, .slice A2 n2 c2] 25)).cell? ⟨w.heap.size, 2, none⟩ = some (.int .i64 tick) := by
    rw [eW0.out, epb.out]; exact (kk.out W0 hblk0).2.2.1
  have a3 : (w.alloc (.cells #[.string (str code), .slice A1 n1 c1, .int .i64 tick, .int .i64 low, .int .i64 high, .int .i64 wide, .int .i64 rule, .int .i64 top, .int .i64 least, .int .i64 part, .slice A2 n2 c2] 25)).cell? ⟨w.heap.size, 3, none⟩ = some (.int .i64 low) := by
    rw [eW0.out, epb.out]; exact (kk.out W0 hblk0).2.2.2.1
  have a4 : (w.alloc (.cells #[.string (str code), .slice A1 n1 c1, .int .i64 tick, .int .i64 low, .int .i64 high, .int .i64 wide, .int .i64 rule, .int .i64 top, .int .i64 least, .int .i64 part, .slice A2 n2 c2] 25)).cell? ⟨w.heap.size, 4, none⟩ = some (.int .i64 high) := by
    rw [eW0.out, epb.out]; exact (kk.out W0 hblk0).2.2.2.2.1
  have a5 : (w.alloc (.cells #[.string (str code), .slice A1 n1 c1, .int .i64 tick, .int .i64 low, .int .i64 high, .int .i64 wide, .int .i64 rule, .int .i64 top, .int .i64 least, .int .i64 part, .slice A2 n2 c2] 25)).cell? ⟨w.heap.size, 5, none⟩ = some (.int .i64 wide) := by
    rw [eW0.out, epb.out]; exact (kk.out W0 hblk0).2.2.2.2.2.1
  have a6 : (w.alloc (.cells #[.string (str code), .slice A1 n1 c1, .int .i64 tick, .int .i64 low, .int .i64 high, .int .i64 wide, .int .i64 rule, .int .i64 top, .int .i64 least, .int .i64 part, .slice A2 n2 c2] 25)).cell? ⟨w.heap.size, 6, none⟩ = some (.int .i64 rule) := by
    rw [eW0.out, epb.out]; exact (kk.out W0 hblk0).2.2.2.2.2.2.1
  have a7 : (w.alloc (.cells #[.string (str code), .slice A1 n1 c1, .int .i64 tick, .int .i64 low, .int .i64 high, .int .i64 wide, .int .i64 rule, .int .i64 top, .int .i64 least, .int .i64 part, .slice A2 n2 c2] 25)).cell? ⟨w.heap.size, 7, none⟩ = some (.int .i64 top) := by
    rw [eW0.out, epb.out]; exact (kk.out W0 hblk0).2.2.2.2.2.2.2.1
  have a8 : (w.alloc (.cells #[.string (str code), .slice A1 n1 c1, .int .i64 tick, .int .i64 low, .int .i64 high, .int .i64 wide, .int .i64 rule, .int .i64 top, .int .i64 least, .int .i64 part, .slice A2 n2 c2] 25)).cell? ⟨w.heap.size, 8, none⟩ = some (.int .i64 least) := by
    rw [eW0.out, epb.out]; exact (kk.out W0 hblk0).2.2.2.2.2.2.2.2.1
  have a9 : (w.alloc (.cells #[.string (str code), .slice A1 n1 c1, .int .i64 tick, .int .i64 low, .int .i64 high, .int .i64 wide, .int .i64 rule, .int .i64 top, .int .i64 least, .int .i64 part, .slice A2 n2 c2] 25)).cell? ⟨w.heap.size, 9, none⟩ = some (.int .i64 part) := by
    rw [eW0.out, epb.out]; exact (kk.out W0 hblk0).2.2.2.2.2.2.2.2.2.1
  have a10 : (w.alloc (.cells #[.string (str code), .slice A1 n1 c1, .int .i64 tick, .int .i64 low, .int .i64 high, .int .i64 wide, .int .i64 rule, .int .i64 top, .int .i64 least, .int .i64 part, .slice A2 n2 c2] 25)).cell? ⟨w.heap.size, 10, none⟩ = some (.slice A2 n2 c2) := by
    rw [eW0.out, epb.out]; exact (kk.out W0 hblk0).2.2.2.2.2.2.2.2.2.2
  go_enter Try.func7, Try.ntmps7
  go_wp2_with fail
  rw [eW0.out]
  rw [epb.out]
  clear a0 a1 a2 a3 a4 a5 a6 a7 a8 a9 a10 eW0
  obtain ⟨k0, k1, k2, k3, k4, k5, k6, k7, k8, k9, k10⟩ := kk.out W0 hblk0
  refine (HK.out W0 hB0).mono ?_
  clear HK
  rintro e w1 ⟨q, hpred, rfl, hOk, b1⟩
  have hB1 := hB0.trans (b1.mono hB0.size)
  clear k0 k1 k2 k3 k4 k5 k6 k7 k8 k9 k10 kk hblk0 hpb0 hB0 b1
  obtain ⟨mb, emb⟩ : ∃ x, w1.heap.size = x := ⟨_, rfl⟩
  obtain ⟨W4, eW4⟩ : ∃ W, w1.alloc (.cells q.cells 25) = W := ⟨_, rfl⟩
  have H4 : W4.heap[mb]? = some (.cells q.cells 25 (0, 0)) := by rw [← eW4, ← emb]; exact heap_alloc_new w1 _
  have hB4 : Below w.heap.size w W4 := by rw [← eW4]; exact hB1.alloc hB1.size _
  have hOk4 : q.Ok W4 := by rw [← eW4]; exact hOk.below ((Below.refl _ w1).alloc (Nat.le_refl _) _)
  have KK : Hid (∀ W, Below W4.heap.size W4 W → W.heap[mb]? = some (.cells q.cells 25 (0, 0))) := Lib.hid (fun W g => (g.block mb (Array.getElem?_eq_some_iff.1 H4).1).trans H4)
  have HWw : Hid (∀ W, Below W4.heap.size W4 W → Below w.heap.size w W) := Lib.hid (fun W g => hB4.trans (g.mono hB4.size))
  clear hOk hB1 H4 hB4
  have hz := hpred
  have c3 := cnt_three hz
  have c21 := cntL_le q
  obtain ⟨c, ec⟩ : ∃ c, cntL q = c + 1 := ⟨cntL q - 1, by omega⟩
  have hc20 : c ≤ 20 := by omega
  have hw64 : wrap64 (c : Int) = (c : Int) := by unfold wrap64; omega
  obtain ⟨k, ek⟩ : ∃ k, withinN inst c = k := ⟨_, rfl⟩
  have hkc := withinN_le inst c
  rw [ek] at hkc
  obtain ⟨i, j, el, hi, hj, hij, ce1, ce2, enm⟩ := name_split (p := q) (inst := (k : Int)) (by omega) (by omega)
  obtain ⟨sp, esp⟩ : ∃ b, decide (i ≠ j) = b := ⟨_, rfl⟩
  rw [esp] at el
  obtain ⟨l2, el2⟩ : ∃ x, l.take 40 = x := ⟨_, rfl⟩
  obtain ⟨nm, enm2⟩ : ∃ x, nameL q k = x := ⟨_, rfl⟩
  rw [enm2] at enm
  have HWi : Hid (∀ W, Calls Try.prog 19 #[.int .i64 inst, .int .i64 0, .int .i64 c] W fun e w' => e = .returned (.int .i64 k) ∧ w' = W) := Lib.hid (fun W => by rw [← ek]; exact Within_any inst c W (by omega) hin.1 hin.2)
  have HH : Hid (∀ W, Calls Try.prog 17 #[.string (str l), .int .i64 40] W fun e w' => e = .returned (.string (str l2)) ∧ w' = W) := Lib.hid (fun W => by rw [← el2]; exact Head_any l 40 W (by omega))
  have hF := findI_cases q l2
  obtain ⟨⟨fi, fo⟩, efi⟩ : ∃ x, findI q l2 = x := ⟨_, rfl⟩
  rw [efi] at hF
  have HX : Hid (fo = true → ∀ W, Below W4.heap.size W4 W → Calls Try.prog 25 #[q.val, .int .i64 fi] W fun e w' => e = .returned (.string (str l2)) ∧ Below W.heap.size W w') := Lib.hid (fun ho W g => by
    rcases hF with e | ⟨m, hm, e, e2⟩
    · injection e with _ e; rw [e] at ho; cases ho
    · injection e with e3 e4
      rw [e3, ← e2]
      exact PName_any q m W (Lib.hid (hOk4.below g)) ⟨by omega, by omega⟩)
  have hF2 : fo = false → fi = 0 := fun ho => by
    rcases hF with e | ⟨m, hm, e, e2⟩
    · injection e
    · injection e with e3 e4; rw [e4] at ho; cases ho
  replace hF2 := Lib.hid hF2
  have HC : Hid (∀ W, Below W4.heap.size W4 W → Calls Try.prog 21 #[q.val] W fun e w' => e = .returned (.int .i64 ((c + 1 : Nat) : Int)) ∧ Below W.heap.size W w') := Lib.hid (fun W g => by rw [← ec]; exact PCount_any q W (Lib.hid (hOk4.below g)))
  have HL : Hid (∀ W, Below W4.heap.size W4 W → Calls Try.prog 22 #[q.val, .int .i64 k] W fun e w' => e = .returned (.tuple #[.int .i64 i, .int .i64 j, .bool sp]) ∧ Below W.heap.size W w') := Lib.hid (fun W g => by have := PLegs_any q k W (Lib.hid (hOk4.below g)) ⟨by omega, by omega⟩; rw [el] at this; exact this)
  have HN : Hid (∀ W, Below W4.heap.size W4 W → Calls Try.prog 25 #[q.val, .int .i64 k] W fun e w' => e = .returned (.string (str nm)) ∧ Below W.heap.size W w') := Lib.hid (fun W g => by rw [← enm2]; exact PName_any q k W (Lib.hid (hOk4.below g)) ⟨by omega, by omega⟩)
  have HFi : Hid (∀ W, Below W4.heap.size W4 W → Calls Try.prog 24 #[q.val, .string (str l2)] W fun e w' => e = .returned (.tuple #[.int .i64 fi, .bool fo]) ∧ Below W.heap.size W w') := Lib.hid (fun W g => by have := PFind_any q l2 W (Lib.hid (hOk4.below g)); rw [efi] at this; exact this)
  have NM := Lib.hid hOk4.months
  have l1 := hOk4.l1
  have m1 := hOk4.m1
  obtain ⟨ca, eca⟩ : ∃ x, codeL q.code (q.Q i) = x := ⟨_, rfl⟩
  obtain ⟨cb, ecb⟩ : ∃ x, codeL q.code (q.Q j) = x := ⟨_, rfl⟩
  have lca := codeL_len q.code (q.Q i)
  have lcb := codeL_len q.code (q.Q j)
  rw [eca] at lca
  rw [ecb] at lcb
  rw [eca, ecb] at enm
  have HCa : Hid (∀ W, Calls Try.prog 26 #[.string (str q.code), .int .i64 (q.Q i)] W fun e w' => e = .returned (.tuple #[.string (str ca), .int .i64 ((0 : Nat) : Int)]) ∧ Below W.heap.size W w') := Lib.hid (fun W => by have := Code_any q.code (q.Q i) W; rw [eca, ce1] at this; exact this)
  have HCb : Hid (∀ W, Calls Try.prog 26 #[.string (str q.code), .int .i64 (q.Q j)] W fun e w' => e = .returned (.tuple #[.string (str cb), .int .i64 ((0 : Nat) : Int)]) ∧ Below W.heap.size W w') := Lib.hid (fun W => by have := Code_any q.code (q.Q j) W; rw [ecb, ce2] at this; exact this)
  have hs1 : sp = false → nm = ca := fun e => by rw [e] at esp; rw [enm, if_pos (Decidable.byContradiction (of_decide_eq_false esp))]
  have hs2 : sp = true → nm = ca ++ 45 :: cb := fun e => by rw [e] at esp; rw [enm, if_neg (of_decide_eq_true esp)]
  replace hs1 := Lib.hid hs1
  replace hs2 := Lib.hid hs2
  clear esp enm
  clear hpred hz ec ek el el2 enm2 efi eca ecb ce1 ce2 hF hOk4 c3 c21
  obtain ⟨code, A1, n1, c1, tick, low, high, wide, rule, top, least, part, A2, n2, c2, Q, R⟩ := q
  replace HC : Hid (∀ W, Below W4.heap.size W4 W → Calls Try.prog 21 #[.agg #[.string (str code), .slice A1 n1 c1, .int .i64 tick, .int .i64 low, .int .i64 high, .int .i64 wide, .int .i64 rule, .int .i64 top, .int .i64 least, .int .i64 part, .slice A2 n2 c2]] W fun e w' => e = .returned (.int .i64 ((c + 1 : Nat) : Int)) ∧ Below W.heap.size W w') := HC
  replace HL : Hid (∀ W, Below W4.heap.size W4 W → Calls Try.prog 22 #[.agg #[.string (str code), .slice A1 n1 c1, .int .i64 tick, .int .i64 low, .int .i64 high, .int .i64 wide, .int .i64 rule, .int .i64 top, .int .i64 least, .int .i64 part, .slice A2 n2 c2], .int .i64 k] W fun e w' => e = .returned (.tuple #[.int .i64 i, .int .i64 j, .bool sp]) ∧ Below W.heap.size W w') := HL
  replace HN : Hid (∀ W, Below W4.heap.size W4 W → Calls Try.prog 25 #[.agg #[.string (str code), .slice A1 n1 c1, .int .i64 tick, .int .i64 low, .int .i64 high, .int .i64 wide, .int .i64 rule, .int .i64 top, .int .i64 least, .int .i64 part, .slice A2 n2 c2], .int .i64 k] W fun e w' => e = .returned (.string (str nm)) ∧ Below W.heap.size W w') := HN
  replace HFi : Hid (∀ W, Below W4.heap.size W4 W → Calls Try.prog 24 #[.agg #[.string (str code), .slice A1 n1 c1, .int .i64 tick, .int .i64 low, .int .i64 high, .int .i64 wide, .int .i64 rule, .int .i64 top, .int .i64 least, .int .i64 part, .slice A2 n2 c2], .string (str l2)] W fun e w' => e = .returned (.tuple #[.int .i64 fi, .bool fo]) ∧ Below W.heap.size W w') := HFi
  replace KK : Hid (∀ W, Below W4.heap.size W4 W → W.cell? ⟨mb, 0, none⟩ = some (.string (str code)) ∧ W.cell? ⟨mb, 1, none⟩ = some (.slice A1 n1 c1) ∧ W.cell? ⟨mb, 2, none⟩ = some (.int .i64 tick) ∧ W.cell? ⟨mb, 3, none⟩ = some (.int .i64 low) ∧ W.cell? ⟨mb, 4, none⟩ = some (.int .i64 high) ∧ W.cell? ⟨mb, 5, none⟩ = some (.int .i64 wide) ∧ W.cell? ⟨mb, 6, none⟩ = some (.int .i64 rule) ∧ W.cell? ⟨mb, 7, none⟩ = some (.int .i64 top) ∧ W.cell? ⟨mb, 8, none⟩ = some (.int .i64 least) ∧ W.cell? ⟨mb, 9, none⟩ = some (.int .i64 part) ∧ W.cell? ⟨mb, 10, none⟩ = some (.slice A2 n2 c2)) := Lib.hid (fun W g => row11 (KK.out W g))
  replace eW4 : w1.alloc (.cells #[.string (str code), .slice A1 n1 c1, .int .i64 tick, .int .i64 low, .int .i64 high, .int .i64 wide, .int .i64 rule, .int .i64 top, .int .i64 least, .int .i64 part, .slice A2 n2 c2] 25) = W4 := eW4
  replace eW4 := Lib.hid eW4
  rw [show PD.val ⟨code, A1, n1, c1, tick, low, high, wide, rule, top, least, part, A2, n2, c2, Q, R⟩ = .agg #[.string (str code), .slice A1 n1 c1, .int .i64 tick, .int .i64 low, .int .i64 high, .int .i64 wide, .int .i64 rule, .int .i64 top, .int .i64 least, .int .i64 part, .slice A2 n2 c2] from rfl]
  simp only at hi hj l1 m1
  replace HX : Hid (fo = true → ∀ W, Below W4.heap.size W4 W → Calls Try.prog 25 #[.agg #[.string (str code), .slice A1 n1 c1, .int .i64 tick, .int .i64 low, .int .i64 high, .int .i64 wide, .int .i64 rule, .int .i64 top, .int .i64 least, .int .i64 part, .slice A2 n2 c2], .int .i64 fi] W fun e w' => e = .returned (.string (str l2)) ∧ Below W.heap.size W w') := HX
  replace NM : Hid (Nums W4 A1 n1 Q) := NM
  replace HCa : Hid (∀ W, Calls Try.prog 26 #[.string (str code), .int .i64 (Q i)] W fun e w' => e = .returned (.tuple #[.string (str ca), .int .i64 ((0 : Nat) : Int)]) ∧ Below W.heap.size W w') := HCa
  replace HCb : Hid (∀ W, Calls Try.prog 26 #[.string (str code), .int .i64 (Q j)] W fun e w' => e = .returned (.tuple #[.string (str cb), .int .i64 ((0 : Nat) : Int)]) ∧ Below W.heap.size W w') := HCb
  obtain ⟨ab, ao, eA, hc1, r1, r2⟩ := NM.out i hi
  obtain ⟨ab2, ao2, em, hc2, r3, r4⟩ := NM.out j hj
  rw [eA] at em
  injection em with em; injection em with em1 em2; subst em1; subst em2
  subst eA
  replace hc1 := Lib.hid hc1
  replace hc2 := Lib.hid hc2
  have d1 : decide (((c + 1 : Nat) : Int) < 1) = false := decide_eq_false (by omega)
  have d2 : decide ((i : Int) < 0) = false := decide_eq_false (by omega)
  have d3 : decide ((n1 : Int) ≤ (i : Int)) = false := decide_eq_false (by omega)
  have d3' : decide (n1 ≤ i) = false := decide_eq_false (by omega)
  have d4 : decide ((j : Int) < 0) = false := decide_eq_false (by omega)
  have d5 : decide ((n1 : Int) ≤ (j : Int)) = false := decide_eq_false (by omega)
  have d5' : decide (n1 ≤ j) = false := decide_eq_false (by omega)
  have d6 : (i : Int) < (n1 : Int) := by omega
  have d7 : (j : Int) < (n1 : Int) := by omega
  go_upto_region 2 with (fail)
  rw [eW4.out]
  clear eW4 emb
  have B0 := Lib.hid (Below.refl W4.heap.size W4)
  obtain ⟨k0, k1, k2, k3, k4, k5, k6, k7, k8, k9, k10⟩ := KK.out W4 B0.out
  go_wp2_with fail
  refine (HC.out W4 B0.out).mono ?_
  rintro e u1 ⟨rfl, bz⟩
  have B1 := Lib.hid (B0.out.trans (bz.mono B0.out.size))
  clear k0 k1 k2 k3 k4 k5 k6 k7 k8 k9 k10 B0 bz
  obtain ⟨k0, k1, k2, k3, k4, k5, k6, k7, k8, k9, k10⟩ := KK.out _ B1.out
  go_wp2_with fail
  refine (HC.out u1 B1.out).mono ?_
  clear HC
  rintro e u2 ⟨rfl, bz⟩
  have B2 := Lib.hid (B1.out.trans (bz.mono B1.out.size))
  clear k0 k1 k2 k3 k4 k5 k6 k7 k8 k9 k10 B1 bz
  obtain ⟨k0, k1, k2, k3, k4, k5, k6, k7, k8, k9, k10⟩ := KK.out _ B2.out
  go_wp2_with fail
  refine (HWi.out _).mono ?_
  rintro e u2 ⟨rfl, rfl⟩
  go_wp2_with fail
  refine (HL.out u2 B2.out).mono ?_
  clear HL
  rintro e u3 ⟨rfl, bz⟩
  have B3 := Lib.hid (B2.out.trans (bz.mono B2.out.size))
  clear k0 k1 k2 k3 k4 k5 k6 k7 k8 k9 k10 B2 bz
  obtain ⟨k0, k1, k2, k3, k4, k5, k6, k7, k8, k9, k10⟩ := KK.out _ B3.out
  go_upto_region 8 with (fail)
  have hSof8 : Hid (∀ W W' : World, (fun W => W.cell? ⟨mb, 0, none⟩ = some (.string (str code)) ∧ W.cell? ⟨mb, 1, none⟩ = some (.slice (some ⟨ab, ao, none⟩) n1 c1) ∧ W.cell? ⟨ab, ao + i, none⟩ = some (.int .i64 (Q i)) ∧ Below W4.heap.size W4 W) W → Below W.heap.size W W' → (fun W => W.cell? ⟨mb, 0, none⟩ = some (.string (str code)) ∧ W.cell? ⟨mb, 1, none⟩ = some (.slice (some ⟨ab, ao, none⟩) n1 c1) ∧ W.cell? ⟨ab, ao + i, none⟩ = some (.int .i64 (Q i)) ∧ Below W4.heap.size W4 W) W') := Lib.hid (fun W W' h b => ⟨(b.cell (World.block_lt_of_cell? W _ h.1)).trans h.1, (b.cell (World.block_lt_of_cell? W _ h.2.1)).trans h.2.1, (b.cell (World.block_lt_of_cell? W _ h.2.2.1)).trans h.2.2.1, h.2.2.2.trans (b.mono h.2.2.2.size)⟩)
  have hz0 := hSof8.out _ _ (show (fun W => W.cell? ⟨mb, 0, none⟩ = some (.string (str code)) ∧ W.cell? ⟨mb, 1, none⟩ = some (.slice (some ⟨ab, ao, none⟩) n1 c1) ∧ W.cell? ⟨ab, ao + i, none⟩ = some (.int .i64 (Q i)) ∧ Below W4.heap.size W4 W) u3 from ⟨k0, k1, (B3.out.cell (p := ⟨ab, ao + i, none⟩) (World.block_lt_of_cell? W4 _ hc1.out)).trans hc1.out, B3.out⟩) ((Below.refl _ u3).drew)
  simp only at hz0
  clear k0 k1 k2 k3 k4 k5 k6 k7 k8 k9 k10 B3
  go_region_held3 (fun W => W.cell? ⟨mb, 0, none⟩ = some (.string (str code)) ∧ W.cell? ⟨mb, 1, none⟩ = some (.slice (some ⟨ab, ao, none⟩) n1 c1) ∧ W.cell? ⟨ab, ao + i, none⟩ = some (.int .i64 (Q i)) ∧ Below W4.heap.size W4 W) (first | with_reducible assumption | with_reducible exact hz0)
    ((first | (go_at_call 26; refine (HCa.out _).mono ?_; rintro e u4 ⟨rfl, bz⟩; have hz1 := hSof8.out _ _ (by with_reducible assumption) bz; clear bz)))
  have B4 := Lib.hid hz1.2.2.2
  clear hz0 hz1 hSof8 HCa
  obtain ⟨k0, k1, k2, k3, k4, k5, k6, k7, k8, k9, k10⟩ := KK.out _ B4.out
  go_wp2_with fail
  have hSof9 : Hid (∀ W W' : World, (fun W => W.cell? ⟨mb, 0, none⟩ = some (.string (str code)) ∧ W.cell? ⟨mb, 1, none⟩ = some (.slice (some ⟨ab, ao, none⟩) n1 c1) ∧ W.cell? ⟨ab, ao + j, none⟩ = some (.int .i64 (Q j)) ∧ Below W4.heap.size W4 W) W → Below W.heap.size W W' → (fun W => W.cell? ⟨mb, 0, none⟩ = some (.string (str code)) ∧ W.cell? ⟨mb, 1, none⟩ = some (.slice (some ⟨ab, ao, none⟩) n1 c1) ∧ W.cell? ⟨ab, ao + j, none⟩ = some (.int .i64 (Q j)) ∧ Below W4.heap.size W4 W) W') := Lib.hid (fun W W' h b => ⟨(b.cell (World.block_lt_of_cell? W _ h.1)).trans h.1, (b.cell (World.block_lt_of_cell? W _ h.2.1)).trans h.2.1, (b.cell (World.block_lt_of_cell? W _ h.2.2.1)).trans h.2.2.1, h.2.2.2.trans (b.mono h.2.2.2.size)⟩)
  have hz0 := hSof9.out _ _ (show (fun W => W.cell? ⟨mb, 0, none⟩ = some (.string (str code)) ∧ W.cell? ⟨mb, 1, none⟩ = some (.slice (some ⟨ab, ao, none⟩) n1 c1) ∧ W.cell? ⟨ab, ao + j, none⟩ = some (.int .i64 (Q j)) ∧ Below W4.heap.size W4 W) u4 from ⟨k0, k1, (B4.out.cell (p := ⟨ab, ao + j, none⟩) (World.block_lt_of_cell? W4 _ hc2.out)).trans hc2.out, B4.out⟩) ((Below.refl _ u4).drew)
  simp only at hz0
  clear k0 k1 k2 k3 k4 k5 k6 k7 k8 k9 k10 B4
  go_region_held3 (fun W => W.cell? ⟨mb, 0, none⟩ = some (.string (str code)) ∧ W.cell? ⟨mb, 1, none⟩ = some (.slice (some ⟨ab, ao, none⟩) n1 c1) ∧ W.cell? ⟨ab, ao + j, none⟩ = some (.int .i64 (Q j)) ∧ Below W4.heap.size W4 W) (first | with_reducible assumption | with_reducible exact hz0)
    ((first | (go_at_call 26; refine (HCb.out _).mono ?_; rintro e u5 ⟨rfl, bz⟩; have hz1 := hSof9.out _ _ (by with_reducible assumption) bz; clear bz)))
  have B5 := Lib.hid hz1.2.2.2
  clear hz0 hz1 hSof9 HCb
  obtain ⟨k0, k1, k2, k3, k4, k5, k6, k7, k8, k9, k10⟩ := KK.out _ B5.out
  have e45 : (⟨#[45]⟩ : ByteArray) = str [45] := rfl
  have z0 : (str [45]).size = 1 := rfl
  have z1 : (str ca).size ≤ 11 := by rw [str_size]; exact lca
  have z2 : (str cb).size ≤ 11 := by rw [str_size]; exact lcb
  cases sp
  case false =>
    have en := hs1.out rfl
    clear hs1 hs2
    subst en
    have h1 : ((str nm).toList == (str nm).toList) = true := str_same rfl
    have h2 : ((str nm).toList != (str nm).toList) = false := by rw [bne, h1]; rfl
    go_wp2_with fail
    refine (HN.out u5 B5.out).mono ?_
    clear HN
    rintro e u6 ⟨rfl, bz⟩
    have B6 := Lib.hid (B5.out.trans (bz.mono B5.out.size))
    clear k0 k1 k2 k3 k4 k5 k6 k7 k8 k9 k10 B5 bz
    obtain ⟨k0, k1, k2, k3, k4, k5, k6, k7, k8, k9, k10⟩ := KK.out _ B6.out
    go_wp2_with fail
    refine (HH.out _).mono ?_
    rintro e u6 ⟨rfl, rfl⟩
    go_wp2_with fail
    refine (HFi.out u6 B6.out).mono ?_
    clear HFi
    rintro e u7 ⟨rfl, bz⟩
    have B7 := Lib.hid (B6.out.trans (bz.mono B6.out.size))
    clear k0 k1 k2 k3 k4 k5 k6 k7 k8 k9 k10 B6 bz
    obtain ⟨k0, k1, k2, k3, k4, k5, k6, k7, k8, k9, k10⟩ := KK.out _ B7.out
    have h3 : ((str l2).toList == (str l2).toList) = true := str_same rfl
    cases fo
    case false =>
      have hf0 := hF2.out rfl
      subst hf0
      clear HX hF2
      go_wp2_with fail
      refine (Known_any u7).mono ?_
      rintro e u8 ⟨rfl, bz⟩
      have B8 := Lib.hid (B7.out.trans (bz.mono B7.out.size))
      clear k0 k1 k2 k3 k4 k5 k6 k7 k8 k9 k10 B7 bz
      obtain ⟨k0, k1, k2, k3, k4, k5, k6, k7, k8, k9, k10⟩ := KK.out _ B8.out
      go_wp2_with fail
      go_ret
      exact ⟨rfl, HWw.out _ B8.out⟩
    case true =>
      replace HX := Lib.hid (HX.out rfl)
      clear hF2
      go_wp2_with fail
      refine (HX.out u7 B7.out).mono ?_
      clear HX
      rintro e u8 ⟨rfl, bz⟩
      have B8 := Lib.hid (B7.out.trans (bz.mono B7.out.size))
      clear k0 k1 k2 k3 k4 k5 k6 k7 k8 k9 k10 B7 bz
      obtain ⟨k0, k1, k2, k3, k4, k5, k6, k7, k8, k9, k10⟩ := KK.out _ B8.out
      go_wp2_with fail
      refine (Known_any u8).mono ?_
      rintro e u9 ⟨rfl, bz⟩
      have B9 := Lib.hid (B8.out.trans (bz.mono B8.out.size))
      clear k0 k1 k2 k3 k4 k5 k6 k7 k8 k9 k10 B8 bz
      obtain ⟨k0, k1, k2, k3, k4, k5, k6, k7, k8, k9, k10⟩ := KK.out _ B9.out
      go_wp2_with fail
      go_ret
      exact ⟨rfl, HWw.out _ B9.out⟩
  case true =>
    have en := hs2.out rfl
    clear hs1 hs2
    have jn : str ca ++ str [45] ++ str cb = str nm := by rw [str_append, str_append, en]; simp
    have lnm : nm.length ≤ 23 := by rw [en, List.length_append, List.length_cons]; omega
    clear en
    have h1 : ((str nm).toList == (str nm).toList) = true := str_same rfl
    have h2 : ((str nm).toList != (str nm).toList) = false := by rw [bne, h1]; rfl
    go_wp2_with fail
    refine (HN.out u5 B5.out).mono ?_
    clear HN
    rintro e u6 ⟨rfl, bz⟩
    have B6 := Lib.hid (B5.out.trans (bz.mono B5.out.size))
    clear k0 k1 k2 k3 k4 k5 k6 k7 k8 k9 k10 B5 bz
    obtain ⟨k0, k1, k2, k3, k4, k5, k6, k7, k8, k9, k10⟩ := KK.out _ B6.out
    go_wp2_with fail
    refine (HH.out _).mono ?_
    rintro e u6 ⟨rfl, rfl⟩
    go_wp2_with fail
    refine (HFi.out u6 B6.out).mono ?_
    clear HFi
    rintro e u7 ⟨rfl, bz⟩
    have B7 := Lib.hid (B6.out.trans (bz.mono B6.out.size))
    clear k0 k1 k2 k3 k4 k5 k6 k7 k8 k9 k10 B6 bz
    obtain ⟨k0, k1, k2, k3, k4, k5, k6, k7, k8, k9, k10⟩ := KK.out _ B7.out
    have h3 : ((str l2).toList == (str l2).toList) = true := str_same rfl
    cases fo
    case false =>
      have hf0 := hF2.out rfl
      subst hf0
      clear HX hF2
      go_wp2_with fail
      refine (Known_any u7).mono ?_
      rintro e u8 ⟨rfl, bz⟩
      have B8 := Lib.hid (B7.out.trans (bz.mono B7.out.size))
      clear k0 k1 k2 k3 k4 k5 k6 k7 k8 k9 k10 B7 bz
      obtain ⟨k0, k1, k2, k3, k4, k5, k6, k7, k8, k9, k10⟩ := KK.out _ B8.out
      go_wp2_with fail
      go_ret
      exact ⟨rfl, HWw.out _ B8.out⟩
    case true =>
      replace HX := Lib.hid (HX.out rfl)
      clear hF2
      go_wp2_with fail
      refine (HX.out u7 B7.out).mono ?_
      clear HX
      rintro e u8 ⟨rfl, bz⟩
      have B8 := Lib.hid (B7.out.trans (bz.mono B7.out.size))
      clear k0 k1 k2 k3 k4 k5 k6 k7 k8 k9 k10 B7 bz
      obtain ⟨k0, k1, k2, k3, k4, k5, k6, k7, k8, k9, k10⟩ := KK.out _ B8.out
      go_wp2_with fail
      refine (Known_any u8).mono ?_
      rintro e u9 ⟨rfl, bz⟩
      have B9 := Lib.hid (B8.out.trans (bz.mono B8.out.size))
      clear k0 k1 k2 k3 k4 k5 k6 k7 k8 k9 k10 B8 bz
      obtain ⟨k0, k1, k2, k3, k4, k5, k6, k7, k8, k9, k10⟩ := KK.out _ B9.out
      go_wp2_with fail
      go_ret
      exact ⟨rfl, HWw.out _ B9.out⟩
end Go.Proofs.Ytbigmbpclikenaa
