/-
  Contract: same, of the law's package: a product is told the same by both.
-/
import Derived.Test.YtbigmbpclikenaaRdLegs
import Derived.Test.YtbigmbpclikenaaRdSpread
import Derived.Test.YtbigmbpclikenaaRdFind
import Derived.Test.YtbigmbpclikenaaRdPrice
import Derived.Deep.RegionHeld3
import Derived.Deep.Cut
namespace Go.Proofs.Ytbigmbpclikenaa
open Go.RowKit
set_option linter.unusedVariables false
set_option linter.unusedSimpArgs false

set_option maxRecDepth 100000 in
set_option maxHeartbeats 1600000 in
theorem Same_any (p : PD) (inst price near far : Int) (l : List UInt8) (w : World) (h : Hid (p.Ok w)) (hi : I64 inst) (hp : I64 price) (hn : I64 near) (hf : I64 far) :
    Calls Try.prog 12 #[p.val, .int .i64 inst, .int .i64 price, .string (str l), .int .i64 near, .int .i64 far] w fun e w' => e = .returned (.bool true) ∧ Below w.heap.size w w' := by
  obtain ⟨a, ea⟩ : ∃ x, (legsL p inst).1 = x := ⟨_, rfl⟩
  obtain ⟨b, eb⟩ : ∃ x, (legsL p inst).2.1 = x := ⟨_, rfl⟩
  obtain ⟨c, ec⟩ : ∃ x, (legsL p inst).2.2 = x := ⟨_, rfl⟩
  obtain ⟨d, ed⟩ : ∃ x, (spreadI p near far).1 = x := ⟨_, rfl⟩
  obtain ⟨e0, ee⟩ : ∃ x, (spreadI p near far).2 = x := ⟨_, rfl⟩
  obtain ⟨i, ei⟩ : ∃ x, (findI p l).1 = x := ⟨_, rfl⟩
  obtain ⟨j, ej⟩ : ∃ x, (findI p l).2 = x := ⟨_, rfl⟩
  obtain ⟨ck, eck⟩ : ∃ x, chk p = x := ⟨_, rfl⟩
  obtain ⟨cn, ecn⟩ : ∃ x, cntL p = x := ⟨_, rfl⟩
  obtain ⟨nm, enm⟩ : ∃ x, nameL p inst = x := ⟨_, rfl⟩
  obtain ⟨pr, epr⟩ : ∃ x, priceL p inst price = x := ⟨_, rfl⟩
  have HL : Hid (∀ W, Below w.heap.size w W → Calls Try.prog 22 #[p.val, .int .i64 inst] W fun e w' => e = .returned (.tuple #[.int .i64 a, .int .i64 b, .bool c]) ∧ Below W.heap.size W w') := Lib.hid (fun W g => by have := PLegs_any p inst W (Lib.hid (h.out.below g)) hi; simp only [ea, eb, ec, ed, ee, ei, ej, eck, ecn, enm, epr] at this; exact this)
  have HM : Hid (∀ W, Below w.heap.size w W → Calls Try.prog 27 #[p.val, .int .i64 inst] W fun e w' => e = .returned (.tuple #[.int .i64 a, .int .i64 b, .bool c]) ∧ Below W.heap.size W w') := Lib.hid (fun W g => by have := RefLegs_any p inst W (Lib.hid (h.out.below g)) hi; simp only [ea, eb, ec, ed, ee, ei, ej, eck, ecn, enm, epr] at this; exact this)
  have HS : Hid (∀ W, Below w.heap.size w W → Calls Try.prog 23 #[p.val, .int .i64 near, .int .i64 far] W fun e w' => e = .returned (.tuple #[.int .i64 d, .bool e0]) ∧ Below W.heap.size W w') := Lib.hid (fun W g => by have := PSpreads_any p near far W (Lib.hid (h.out.below g)) hn hf; simp only [ea, eb, ec, ed, ee, ei, ej, eck, ecn, enm, epr] at this; exact this)
  have HT : Hid (∀ W, Below w.heap.size w W → Calls Try.prog 28 #[p.val, .int .i64 near, .int .i64 far] W fun e w' => e = .returned (.tuple #[.int .i64 d, .bool e0]) ∧ Below W.heap.size W w') := Lib.hid (fun W g => by have := RefSpreads_any p near far W (Lib.hid (h.out.below g)) hn hf; simp only [ea, eb, ec, ed, ee, ei, ej, eck, ecn, enm, epr] at this; exact this)
  have HF : Hid (∀ W, Below w.heap.size w W → Calls Try.prog 24 #[p.val, .string (str l)] W fun e w' => e = .returned (.tuple #[.int .i64 i, .bool j]) ∧ Below W.heap.size W w') := Lib.hid (fun W g => by have := PFind_any p l W (Lib.hid (h.out.below g)); simp only [ea, eb, ec, ed, ee, ei, ej, eck, ecn, enm, epr] at this; exact this)
  have HG : Hid (∀ W, Below w.heap.size w W → Calls Try.prog 29 #[p.val, .string (str l)] W fun e w' => e = .returned (.tuple #[.int .i64 i, .bool j]) ∧ Below W.heap.size W w') := Lib.hid (fun W g => by have := RefFind_any p l W (Lib.hid (h.out.below g)); simp only [ea, eb, ec, ed, ee, ei, ej, eck, ecn, enm, epr] at this; exact this)
  have HC : Hid (∀ W, Below w.heap.size w W → Calls Try.prog 13 #[p.val] W fun e w' => e = .returned (.int .i64 ck) ∧ Below W.heap.size W w') := Lib.hid (fun W g => by have := PCheck_any p W (Lib.hid (h.out.below g)); simp only [ea, eb, ec, ed, ee, ei, ej, eck, ecn, enm, epr] at this; exact this)
  have HD : Hid (∀ W, Below w.heap.size w W → Calls Try.prog 30 #[p.val] W fun e w' => e = .returned (.int .i64 ck) ∧ Below W.heap.size W w') := Lib.hid (fun W g => by have := RefCheck_any p W (Lib.hid (h.out.below g)); simp only [ea, eb, ec, ed, ee, ei, ej, eck, ecn, enm, epr] at this; exact this)
  have HN : Hid (∀ W, Below w.heap.size w W → Calls Try.prog 21 #[p.val] W fun e w' => e = .returned (.int .i64 cn) ∧ Below W.heap.size W w') := Lib.hid (fun W g => by have := PCount_any p W (Lib.hid (h.out.below g)); simp only [ea, eb, ec, ed, ee, ei, ej, eck, ecn, enm, epr] at this; exact this)
  have HO : Hid (∀ W, Below w.heap.size w W → Calls Try.prog 31 #[p.val] W fun e w' => e = .returned (.int .i64 cn) ∧ Below W.heap.size W w') := Lib.hid (fun W g => by have := RefCount_any p W (Lib.hid (h.out.below g)); simp only [ea, eb, ec, ed, ee, ei, ej, eck, ecn, enm, epr] at this; exact this)
  have HA : Hid (∀ W, Below w.heap.size w W → Calls Try.prog 25 #[p.val, .int .i64 inst] W fun e w' => e = .returned (.string (str nm)) ∧ Below W.heap.size W w') := Lib.hid (fun W g => by have := PName_any p inst W (Lib.hid (h.out.below g)) hi; simp only [ea, eb, ec, ed, ee, ei, ej, eck, ecn, enm, epr] at this; exact this)
  have HB : Hid (∀ W, Below w.heap.size w W → Calls Try.prog 20 #[p.val, .int .i64 inst] W fun e w' => e = .returned (.string (str nm)) ∧ Below W.heap.size W w') := Lib.hid (fun W g => by have := RefName_any p inst W (Lib.hid (h.out.below g)) hi; simp only [ea, eb, ec, ed, ee, ei, ej, eck, ecn, enm, epr] at this; exact this)
  have HP : Hid (∀ W, Below w.heap.size w W → Calls Try.prog 14 #[p.val, .int .i64 inst, .int .i64 price] W fun e w' => e = .returned (.int .i64 pr) ∧ Below W.heap.size W w') := Lib.hid (fun W g => by have := PPrice_any p inst price W (Lib.hid (h.out.below g)) hi hp; simp only [ea, eb, ec, ed, ee, ei, ej, eck, ecn, enm, epr] at this; exact this)
  have HQ : Hid (∀ W, Below w.heap.size w W → Calls Try.prog 32 #[p.val, .int .i64 inst, .int .i64 price] W fun e w' => e = .returned (.int .i64 pr) ∧ Below W.heap.size W w') := Lib.hid (fun W g => by have := RefPrice_any p inst price W (Lib.hid (h.out.below g)) hi hp; simp only [ea, eb, ec, ed, ee, ei, ej, eck, ecn, enm, epr] at this; exact this)
  clear ea eb ec ed ee ei ej eck ecn enm epr
  have l1 := h.out.l1
  have m1 := h.out.m1
  have l2 := h.out.l2
  have m2 := h.out.m2
  have hco := h.out.code
  obtain ⟨ti1, ti2⟩ := h.out.tick
  obtain ⟨lo1, lo2⟩ := h.out.low
  obtain ⟨hg1, hg2⟩ := h.out.high
  obtain ⟨wi1, wi2⟩ := h.out.wide
  obtain ⟨ru1, ru2⟩ := h.out.rule
  obtain ⟨to1, to2⟩ := h.out.top
  obtain ⟨le1, le2⟩ := h.out.least
  obtain ⟨pa1, pa2⟩ := h.out.part
  have HO1 : Hid (∀ W, Below w.heap.size w W → Nums W p.A1 p.n1 p.Q) := Lib.hid (fun W b => h.out.months.below b)
  have HO2 : Hid (∀ W, Below w.heap.size w W → Nums W p.A2 p.n2 p.R) := Lib.hid (fun W b => h.out.settle.below b)
  clear h
  obtain ⟨code, A1, n1, c1, tick, low, high, wide, rule, top, least, part, A2, n2, c2, Q, R⟩ := p
  simp only at l1 m1 l2 m2 hco ti1 ti2 lo1 lo2 hg1 hg2 wi1 wi2 ru1 ru2 to1 to2 le1 le2 pa1 pa2 HO1 HO2 
  replace HL : Hid (∀ W, Below w.heap.size w W → Calls Try.prog 22 #[.agg #[.string (str code), .slice A1 n1 c1, .int .i64 tick, .int .i64 low, .int .i64 high, .int .i64 wide, .int .i64 rule, .int .i64 top, .int .i64 least, .int .i64 part, .slice A2 n2 c2], .int .i64 inst] W fun e w' => e = .returned (.tuple #[.int .i64 a, .int .i64 b, .bool c]) ∧ Below W.heap.size W w') := HL
  replace HM : Hid (∀ W, Below w.heap.size w W → Calls Try.prog 27 #[.agg #[.string (str code), .slice A1 n1 c1, .int .i64 tick, .int .i64 low, .int .i64 high, .int .i64 wide, .int .i64 rule, .int .i64 top, .int .i64 least, .int .i64 part, .slice A2 n2 c2], .int .i64 inst] W fun e w' => e = .returned (.tuple #[.int .i64 a, .int .i64 b, .bool c]) ∧ Below W.heap.size W w') := HM
  replace HS : Hid (∀ W, Below w.heap.size w W → Calls Try.prog 23 #[.agg #[.string (str code), .slice A1 n1 c1, .int .i64 tick, .int .i64 low, .int .i64 high, .int .i64 wide, .int .i64 rule, .int .i64 top, .int .i64 least, .int .i64 part, .slice A2 n2 c2], .int .i64 near, .int .i64 far] W fun e w' => e = .returned (.tuple #[.int .i64 d, .bool e0]) ∧ Below W.heap.size W w') := HS
  replace HT : Hid (∀ W, Below w.heap.size w W → Calls Try.prog 28 #[.agg #[.string (str code), .slice A1 n1 c1, .int .i64 tick, .int .i64 low, .int .i64 high, .int .i64 wide, .int .i64 rule, .int .i64 top, .int .i64 least, .int .i64 part, .slice A2 n2 c2], .int .i64 near, .int .i64 far] W fun e w' => e = .returned (.tuple #[.int .i64 d, .bool e0]) ∧ Below W.heap.size W w') := HT
  replace HF : Hid (∀ W, Below w.heap.size w W → Calls Try.prog 24 #[.agg #[.string (str code), .slice A1 n1 c1, .int .i64 tick, .int .i64 low, .int .i64 high, .int .i64 wide, .int .i64 rule, .int .i64 top, .int .i64 least, .int .i64 part, .slice A2 n2 c2], .string (str l)] W fun e w' => e = .returned (.tuple #[.int .i64 i, .bool j]) ∧ Below W.heap.size W w') := HF
  replace HG : Hid (∀ W, Below w.heap.size w W → Calls Try.prog 29 #[.agg #[.string (str code), .slice A1 n1 c1, .int .i64 tick, .int .i64 low, .int .i64 high, .int .i64 wide, .int .i64 rule, .int .i64 top, .int .i64 least, .int .i64 part, .slice A2 n2 c2], .string (str l)] W fun e w' => e = .returned (.tuple #[.int .i64 i, .bool j]) ∧ Below W.heap.size W w') := HG
  replace HC : Hid (∀ W, Below w.heap.size w W → Calls Try.prog 13 #[.agg #[.string (str code), .slice A1 n1 c1, .int .i64 tick, .int .i64 low, .int .i64 high, .int .i64 wide, .int .i64 rule, .int .i64 top, .int .i64 least, .int .i64 part, .slice A2 n2 c2]] W fun e w' => e = .returned (.int .i64 ck) ∧ Below W.heap.size W w') := HC
  replace HD : Hid (∀ W, Below w.heap.size w W → Calls Try.prog 30 #[.agg #[.string (str code), .slice A1 n1 c1, .int .i64 tick, .int .i64 low, .int .i64 high, .int .i64 wide, .int .i64 rule, .int .i64 top, .int .i64 least, .int .i64 part, .slice A2 n2 c2]] W fun e w' => e = .returned (.int .i64 ck) ∧ Below W.heap.size W w') := HD
  replace HN : Hid (∀ W, Below w.heap.size w W → Calls Try.prog 21 #[.agg #[.string (str code), .slice A1 n1 c1, .int .i64 tick, .int .i64 low, .int .i64 high, .int .i64 wide, .int .i64 rule, .int .i64 top, .int .i64 least, .int .i64 part, .slice A2 n2 c2]] W fun e w' => e = .returned (.int .i64 cn) ∧ Below W.heap.size W w') := HN
  replace HO : Hid (∀ W, Below w.heap.size w W → Calls Try.prog 31 #[.agg #[.string (str code), .slice A1 n1 c1, .int .i64 tick, .int .i64 low, .int .i64 high, .int .i64 wide, .int .i64 rule, .int .i64 top, .int .i64 least, .int .i64 part, .slice A2 n2 c2]] W fun e w' => e = .returned (.int .i64 cn) ∧ Below W.heap.size W w') := HO
  replace HA : Hid (∀ W, Below w.heap.size w W → Calls Try.prog 25 #[.agg #[.string (str code), .slice A1 n1 c1, .int .i64 tick, .int .i64 low, .int .i64 high, .int .i64 wide, .int .i64 rule, .int .i64 top, .int .i64 least, .int .i64 part, .slice A2 n2 c2], .int .i64 inst] W fun e w' => e = .returned (.string (str nm)) ∧ Below W.heap.size W w') := HA
  replace HB : Hid (∀ W, Below w.heap.size w W → Calls Try.prog 20 #[.agg #[.string (str code), .slice A1 n1 c1, .int .i64 tick, .int .i64 low, .int .i64 high, .int .i64 wide, .int .i64 rule, .int .i64 top, .int .i64 least, .int .i64 part, .slice A2 n2 c2], .int .i64 inst] W fun e w' => e = .returned (.string (str nm)) ∧ Below W.heap.size W w') := HB
  replace HP : Hid (∀ W, Below w.heap.size w W → Calls Try.prog 14 #[.agg #[.string (str code), .slice A1 n1 c1, .int .i64 tick, .int .i64 low, .int .i64 high, .int .i64 wide, .int .i64 rule, .int .i64 top, .int .i64 least, .int .i64 part, .slice A2 n2 c2], .int .i64 inst, .int .i64 price] W fun e w' => e = .returned (.int .i64 pr) ∧ Below W.heap.size W w') := HP
  replace HQ : Hid (∀ W, Below w.heap.size w W → Calls Try.prog 32 #[.agg #[.string (str code), .slice A1 n1 c1, .int .i64 tick, .int .i64 low, .int .i64 high, .int .i64 wide, .int .i64 rule, .int .i64 top, .int .i64 least, .int .i64 part, .slice A2 n2 c2], .int .i64 inst, .int .i64 price] W fun e w' => e = .returned (.int .i64 pr) ∧ Below W.heap.size W w') := HQ
  show Calls Try.prog 12 #[.agg #[.string (str code), .slice A1 n1 c1, .int .i64 tick, .int .i64 low, .int .i64 high, .int .i64 wide, .int .i64 rule, .int .i64 top, .int .i64 least, .int .i64 part, .slice A2 n2 c2], .int .i64 inst, .int .i64 price, .string (str l), .int .i64 near, .int .i64 far] w _
  obtain ⟨W0, eW0⟩ : ∃ W0, w.alloc (.cells #[.string (str code), .slice A1 n1 c1, .int .i64 tick, .int .i64 low, .int .i64 high, .int .i64 wide, .int .i64 rule, .int .i64 top, .int .i64 least, .int .i64 part, .slice A2 n2 c2] 25) = W0 := ⟨_, rfl⟩
  obtain ⟨pb, epb⟩ : ∃ pb, w.heap.size = pb := ⟨_, rfl⟩
  have hblk0 : W0.heap[pb]? = some (.cells #[.string (str code), .slice A1 n1 c1, .int .i64 tick, .int .i64 low, .int .i64 high, .int .i64 wide, .int .i64 rule, .int .i64 top, .int .i64 least, .int .i64 part, .slice A2 n2 c2] 25 (0, 0)) := by
    rw [← eW0, ← epb]; exact heap_alloc_new w _
  have hB0 : Below w.heap.size w W0 := by rw [← eW0]; exact (Below.refl _ w).alloc (Nat.le_refl _) _
  have hpb0 : pb < W0.heap.size := (Array.getElem?_eq_some_iff.1 hblk0).1
  have kk : ∀ W : World, W.heap[pb]? = some (.cells #[.string (str code), .slice A1 n1 c1, .int .i64 tick, .int .i64 low, .int .i64 high, .int .i64 wide, .int .i64 rule, .int .i64 top, .int .i64 least, .int .i64 part, .slice A2 n2 c2] 25 (0, 0)) → W.cell? ⟨pb, 0, none⟩ = some (.string (str code)) ∧ W.cell? ⟨pb, 1, none⟩ = some (.slice A1 n1 c1) ∧ W.cell? ⟨pb, 2, none⟩ = some (.int .i64 tick) ∧ W.cell? ⟨pb, 3, none⟩ = some (.int .i64 low) ∧ W.cell? ⟨pb, 4, none⟩ = some (.int .i64 high) ∧ W.cell? ⟨pb, 5, none⟩ = some (.int .i64 wide) ∧ W.cell? ⟨pb, 6, none⟩ = some (.int .i64 rule) ∧ W.cell? ⟨pb, 7, none⟩ = some (.int .i64 top) ∧ W.cell? ⟨pb, 8, none⟩ = some (.int .i64 least) ∧ W.cell? ⟨pb, 9, none⟩ = some (.int .i64 part) ∧ W.cell? ⟨pb, 10, none⟩ = some (.slice A2 n2 c2) := by
    intro W hb
    refine ⟨?_, ?_, ?_, ?_, ?_, ?_, ?_, ?_, ?_, ?_, ?_⟩ <;> (rw [Lib.cell_of_heap hb]; rfl)
  replace kk := Lib.hid kk
  replace eW0 := Lib.hid eW0
  replace epb := Lib.hid epb
  have a0 : (w.alloc (.cells #[.string (str code), .slice A1 n1 c1, .int .i64 tick, .int .i64 low, .int .i64 high, .int .i64 wide, .int .i64 rule, .int .i64 top, .int .i64 least, .int .i64 part, .slice A2 n2 c2] 25)).cell? ⟨w.heap.size, 0, none⟩ = some (.string (str code)) := by
    rw [eW0.out, epb.out]; exact (kk.out W0 hblk0).1
  have a1 : (w.alloc (.cells #[.string (str code), .slice A1 n1 c1, .int .i64 tick, .int .i64 low, .int .i64 high, .int .i64 wide, .int .i64 rule, .int .i64 top, .int .i64 least, .int .i64 part, .slice A2 n2 c2] 25)).cell? ⟨w.heap.size, 1, none⟩ = some (.slice A1 n1 c1) := by
    rw [eW0.out, epb.out]; exact (kk.out W0 hblk0).2.1
  have a2 : (w.alloc (.cells #[.string (str code), .slice A1 n1 c1, .int .i64 tick, .int .i64 low, .int .i64 high, .int .i64 wide, .int .i64 rule, .int .i64 top, .int .i64 least, .int .i64 part, .slice A2 n2 c2] 25)).cell? ⟨w.heap.size, 2, none⟩ = some (.int .i64 tick) := by
    rw [eW0.out, epb.out]; exact (kk.out W0 hblk0).2.2.1
  have a3 : (w.alloc (.cells #[.string (str code), .slice A1 n1 c1, .int .i64 tick, .int .i64 low, .int .i64 high, .int .i64 wide, .int .i64 rule, .int .i64 top, .int .i64 least, .int .i64 part, .slice A2 n2 c2] 25)).cell? ⟨w.heap.size, 3, none⟩ = some (.int .i64 low) := by
    rw [eW0.out, epb.out]; exact (kk.out W0 hblk0).2.2.2.1
  have a4 : (w.alloc (.cells #[.string (str code), .slice A1 n1 c1, .int .i64 tick, .int .i64 low, .int .i64 high, .int .i64 wide, .int .i64 rule, .int .i64 top, .int .i64 least, .int .i64 part, .slice A2 n2 c2] 25)).cell? ⟨w.heap.size, 4, none⟩ = some (.int .i64 high) := by
    rw [eW0.out, epb.out]; exact (kk.out W0 hblk0).2.2.2.2.1
  have a5 : (w.alloc (.cells #[.string (str code), .slice A1 n1 c1, .int .i64 tick, .int .i64 low, .int .i64 high, .int .i64 wide, .int .i64 rule, .int .i64 top, .int .i64 least, .int .i64 part, .slice A2 n2 c2] 25)).cell? ⟨w.heap.size, 5, none⟩ = some (.int .i64 wide) := by
    rw [eW0.out, epb.out]; exact (kk.out W0 hblk0).2.2.2.2.2.1
  have a6 : (w.alloc (.cells #[.string (str code), .slice A1 n1 c1, .int .i64 tick, .int .i64 low, .int .i64 high, .int .i64 wide, .int .i64 rule, .int .i64 top, .int .i64 least, .int .i64 part, .slice A2 n2 c2] 25)).cell? ⟨w.heap.size, 6, none⟩ = some (.int .i64 rule) := by
    rw [eW0.out, epb.out]; exact (kk.out W0 hblk0).2.2.2.2.2.2.1
  have a7 : (w.alloc (.cells #[.string (str code), .slice A1 n1 c1, .int .i64 tick, .int .i64 low, .int .i64 high, .int .i64 wide, .int .i64 rule, .int .i64 top, .int .i64 least, .int .i64 part, .slice A2 n2 c2] 25)).cell? ⟨w.heap.size, 7, none⟩ = some (.int .i64 top) := by
    rw [eW0.out, epb.out]; exact (kk.out W0 hblk0).2.2.2.2.2.2.2.1
  have a8 : (w.alloc (.cells #[.string (str code), .slice A1 n1 c1, .int .i64 tick, .int .i64 low, .int .i64 high, .int .i64 wide, .int .i64 rule, .int .i64 top, .int .i64 least, .int .i64 part, .slice A2 n2 c2] 25)).cell? ⟨w.heap.size, 8, none⟩ = some (.int .i64 least) := by
    rw [eW0.out, epb.out]; exact (kk.out W0 hblk0).2.2.2.2.2.2.2.2.1
  have a9 : (w.alloc (.cells #[.string (str code), .slice A1 n1 c1, .int .i64 tick, .int .i64 low, .int .i64 high, .int .i64 wide, .int .i64 rule, .int .i64 top, .int .i64 least, .int .i64 part, .slice A2 n2 c2] 25)).cell? ⟨w.heap.size, 9, none⟩ = some (.int .i64 part) := by
    rw [eW0.out, epb.out]; exact (kk.out W0 hblk0).2.2.2.2.2.2.2.2.2.1
  have a10 : (w.alloc (.cells #[.string (str code), .slice A1 n1 c1, .int .i64 tick, .int .i64 low, .int .i64 high, .int .i64 wide, .int .i64 rule, .int .i64 top, .int .i64 least, .int .i64 part, .slice A2 n2 c2] 25)).cell? ⟨w.heap.size, 10, none⟩ = some (.slice A2 n2 c2) := by
    rw [eW0.out, epb.out]; exact (kk.out W0 hblk0).2.2.2.2.2.2.2.2.2.2
  go_enter Try.func12, Try.ntmps12
  have q1 : (a == a) = true := by simp
  have q2 : (b == b) = true := by simp
  have q3 : (c == c) = true := by simp
  have q4 : (d == d) = true := by simp
  have q5 : (e0 == e0) = true := by simp
  have q6 : (i == i) = true := by simp
  have q7 : (j == j) = true := by simp
  have q8 : ((ck : Int) == (ck : Int)) = true := by simp
  have q9 : ((cn : Int) == (cn : Int)) = true := by simp
  have q10 : ((str nm).toList == (str nm).toList) = true := str_same rfl
  have q11 : ((pr : Int) == (pr : Int)) = true := by simp
  go_wp2_with fail
  rw [eW0.out]
  rw [epb.out]
  clear a0 a1 a2 a3 a4 a5 a6 a7 a8 a9 a10 eW0
  obtain ⟨k0, k1, k2, k3, k4, k5, k6, k7, k8, k9, k10⟩ := kk.out W0 hblk0
  refine (HL.out W0 hB0).mono ?_
  clear HL
  rintro e w1 ⟨rfl, b1⟩
  have hblk1 : w1.heap[pb]? = _ := (b1.block pb hpb0).trans hblk0
  have hB1 := hB0.trans (b1.mono hB0.size)
  have hpb1 : pb < w1.heap.size := (Array.getElem?_eq_some_iff.1 hblk1).1
  clear k0 k1 k2 k3 k4 k5 k6 k7 k8 k9 k10
  obtain ⟨k0, k1, k2, k3, k4, k5, k6, k7, k8, k9, k10⟩ := kk.out w1 hblk1
  clear hblk0 hpb0 hB0 b1
  go_wp2_with fail
  refine (HM.out w1 hB1).mono ?_
  clear HM
  rintro e w2 ⟨rfl, b2⟩
  have hblk2 : w2.heap[pb]? = _ := (b2.block pb hpb1).trans hblk1
  have hB2 := hB1.trans (b2.mono hB1.size)
  have hpb2 : pb < w2.heap.size := (Array.getElem?_eq_some_iff.1 hblk2).1
  clear k0 k1 k2 k3 k4 k5 k6 k7 k8 k9 k10
  obtain ⟨k0, k1, k2, k3, k4, k5, k6, k7, k8, k9, k10⟩ := kk.out w2 hblk2
  clear hblk1 hpb1 hB1 b2
  go_wp2_with fail
  refine (HS.out w2 hB2).mono ?_
  clear HS
  rintro e w3 ⟨rfl, b3⟩
  have hblk3 : w3.heap[pb]? = _ := (b3.block pb hpb2).trans hblk2
  have hB3 := hB2.trans (b3.mono hB2.size)
  have hpb3 : pb < w3.heap.size := (Array.getElem?_eq_some_iff.1 hblk3).1
  clear k0 k1 k2 k3 k4 k5 k6 k7 k8 k9 k10
  obtain ⟨k0, k1, k2, k3, k4, k5, k6, k7, k8, k9, k10⟩ := kk.out w3 hblk3
  clear hblk2 hpb2 hB2 b3
  go_wp2_with fail
  refine (HT.out w3 hB3).mono ?_
  clear HT
  rintro e w4 ⟨rfl, b4⟩
  have hblk4 : w4.heap[pb]? = _ := (b4.block pb hpb3).trans hblk3
  have hB4 := hB3.trans (b4.mono hB3.size)
  have hpb4 : pb < w4.heap.size := (Array.getElem?_eq_some_iff.1 hblk4).1
  clear k0 k1 k2 k3 k4 k5 k6 k7 k8 k9 k10
  obtain ⟨k0, k1, k2, k3, k4, k5, k6, k7, k8, k9, k10⟩ := kk.out w4 hblk4
  clear hblk3 hpb3 hB3 b4
  go_wp2_with fail
  refine (HF.out w4 hB4).mono ?_
  clear HF
  rintro e w5 ⟨rfl, b5⟩
  have hblk5 : w5.heap[pb]? = _ := (b5.block pb hpb4).trans hblk4
  have hB5 := hB4.trans (b5.mono hB4.size)
  have hpb5 : pb < w5.heap.size := (Array.getElem?_eq_some_iff.1 hblk5).1
  clear k0 k1 k2 k3 k4 k5 k6 k7 k8 k9 k10
  obtain ⟨k0, k1, k2, k3, k4, k5, k6, k7, k8, k9, k10⟩ := kk.out w5 hblk5
  clear hblk4 hpb4 hB4 b5
  go_wp2_with fail
  refine (HG.out w5 hB5).mono ?_
  clear HG
  rintro e w6 ⟨rfl, b6⟩
  have hblk6 : w6.heap[pb]? = _ := (b6.block pb hpb5).trans hblk5
  have hB6 := hB5.trans (b6.mono hB5.size)
  have hpb6 : pb < w6.heap.size := (Array.getElem?_eq_some_iff.1 hblk6).1
  clear k0 k1 k2 k3 k4 k5 k6 k7 k8 k9 k10
  obtain ⟨k0, k1, k2, k3, k4, k5, k6, k7, k8, k9, k10⟩ := kk.out w6 hblk6
  clear hblk5 hpb5 hB5 b6
  have hSof : Hid (∀ W W' : World, (fun W => W.cell? ⟨pb, 0, none⟩ = some (.string (str code)) ∧ W.cell? ⟨pb, 1, none⟩ = some (.slice A1 n1 c1) ∧ W.cell? ⟨pb, 2, none⟩ = some (.int .i64 tick) ∧ W.cell? ⟨pb, 3, none⟩ = some (.int .i64 low) ∧ W.cell? ⟨pb, 4, none⟩ = some (.int .i64 high) ∧ W.cell? ⟨pb, 5, none⟩ = some (.int .i64 wide) ∧ W.cell? ⟨pb, 6, none⟩ = some (.int .i64 rule) ∧ W.cell? ⟨pb, 7, none⟩ = some (.int .i64 top) ∧ W.cell? ⟨pb, 8, none⟩ = some (.int .i64 least) ∧ W.cell? ⟨pb, 9, none⟩ = some (.int .i64 part) ∧ W.cell? ⟨pb, 10, none⟩ = some (.slice A2 n2 c2) ∧ Below w.heap.size w W) W → Below W.heap.size W W' → (fun W => W.cell? ⟨pb, 0, none⟩ = some (.string (str code)) ∧ W.cell? ⟨pb, 1, none⟩ = some (.slice A1 n1 c1) ∧ W.cell? ⟨pb, 2, none⟩ = some (.int .i64 tick) ∧ W.cell? ⟨pb, 3, none⟩ = some (.int .i64 low) ∧ W.cell? ⟨pb, 4, none⟩ = some (.int .i64 high) ∧ W.cell? ⟨pb, 5, none⟩ = some (.int .i64 wide) ∧ W.cell? ⟨pb, 6, none⟩ = some (.int .i64 rule) ∧ W.cell? ⟨pb, 7, none⟩ = some (.int .i64 top) ∧ W.cell? ⟨pb, 8, none⟩ = some (.int .i64 least) ∧ W.cell? ⟨pb, 9, none⟩ = some (.int .i64 part) ∧ W.cell? ⟨pb, 10, none⟩ = some (.slice A2 n2 c2) ∧ Below w.heap.size w W) W') := Lib.hid (fun W W' h b => ⟨(b.cell (World.block_lt_of_cell? W _ h.1)).trans h.1, (b.cell (World.block_lt_of_cell? W _ h.2.1)).trans h.2.1, (b.cell (World.block_lt_of_cell? W _ h.2.2.1)).trans h.2.2.1, (b.cell (World.block_lt_of_cell? W _ h.2.2.2.1)).trans h.2.2.2.1, (b.cell (World.block_lt_of_cell? W _ h.2.2.2.2.1)).trans h.2.2.2.2.1, (b.cell (World.block_lt_of_cell? W _ h.2.2.2.2.2.1)).trans h.2.2.2.2.2.1, (b.cell (World.block_lt_of_cell? W _ h.2.2.2.2.2.2.1)).trans h.2.2.2.2.2.2.1, (b.cell (World.block_lt_of_cell? W _ h.2.2.2.2.2.2.2.1)).trans h.2.2.2.2.2.2.2.1, (b.cell (World.block_lt_of_cell? W _ h.2.2.2.2.2.2.2.2.1)).trans h.2.2.2.2.2.2.2.2.1, (b.cell (World.block_lt_of_cell? W _ h.2.2.2.2.2.2.2.2.2.1)).trans h.2.2.2.2.2.2.2.2.2.1, (b.cell (World.block_lt_of_cell? W _ h.2.2.2.2.2.2.2.2.2.2.1)).trans h.2.2.2.2.2.2.2.2.2.2.1, h.2.2.2.2.2.2.2.2.2.2.2.trans (b.mono h.2.2.2.2.2.2.2.2.2.2.2.size)⟩)
  replace HC : Hid (∀ W, (fun W => W.cell? ⟨pb, 0, none⟩ = some (.string (str code)) ∧ W.cell? ⟨pb, 1, none⟩ = some (.slice A1 n1 c1) ∧ W.cell? ⟨pb, 2, none⟩ = some (.int .i64 tick) ∧ W.cell? ⟨pb, 3, none⟩ = some (.int .i64 low) ∧ W.cell? ⟨pb, 4, none⟩ = some (.int .i64 high) ∧ W.cell? ⟨pb, 5, none⟩ = some (.int .i64 wide) ∧ W.cell? ⟨pb, 6, none⟩ = some (.int .i64 rule) ∧ W.cell? ⟨pb, 7, none⟩ = some (.int .i64 top) ∧ W.cell? ⟨pb, 8, none⟩ = some (.int .i64 least) ∧ W.cell? ⟨pb, 9, none⟩ = some (.int .i64 part) ∧ W.cell? ⟨pb, 10, none⟩ = some (.slice A2 n2 c2) ∧ Below w.heap.size w W) W → Calls Try.prog 13 #[.agg #[.string (str code), .slice A1 n1 c1, .int .i64 tick, .int .i64 low, .int .i64 high, .int .i64 wide, .int .i64 rule, .int .i64 top, .int .i64 least, .int .i64 part, .slice A2 n2 c2]] W fun e w' => e = .returned (.int .i64 ck) ∧ Below W.heap.size W w') := Lib.hid (fun W g => HC.out W g.2.2.2.2.2.2.2.2.2.2.2)
  replace HD : Hid (∀ W, (fun W => W.cell? ⟨pb, 0, none⟩ = some (.string (str code)) ∧ W.cell? ⟨pb, 1, none⟩ = some (.slice A1 n1 c1) ∧ W.cell? ⟨pb, 2, none⟩ = some (.int .i64 tick) ∧ W.cell? ⟨pb, 3, none⟩ = some (.int .i64 low) ∧ W.cell? ⟨pb, 4, none⟩ = some (.int .i64 high) ∧ W.cell? ⟨pb, 5, none⟩ = some (.int .i64 wide) ∧ W.cell? ⟨pb, 6, none⟩ = some (.int .i64 rule) ∧ W.cell? ⟨pb, 7, none⟩ = some (.int .i64 top) ∧ W.cell? ⟨pb, 8, none⟩ = some (.int .i64 least) ∧ W.cell? ⟨pb, 9, none⟩ = some (.int .i64 part) ∧ W.cell? ⟨pb, 10, none⟩ = some (.slice A2 n2 c2) ∧ Below w.heap.size w W) W → Calls Try.prog 30 #[.agg #[.string (str code), .slice A1 n1 c1, .int .i64 tick, .int .i64 low, .int .i64 high, .int .i64 wide, .int .i64 rule, .int .i64 top, .int .i64 least, .int .i64 part, .slice A2 n2 c2]] W fun e w' => e = .returned (.int .i64 ck) ∧ Below W.heap.size W w') := Lib.hid (fun W g => HD.out W g.2.2.2.2.2.2.2.2.2.2.2)
  replace HN : Hid (∀ W, (fun W => W.cell? ⟨pb, 0, none⟩ = some (.string (str code)) ∧ W.cell? ⟨pb, 1, none⟩ = some (.slice A1 n1 c1) ∧ W.cell? ⟨pb, 2, none⟩ = some (.int .i64 tick) ∧ W.cell? ⟨pb, 3, none⟩ = some (.int .i64 low) ∧ W.cell? ⟨pb, 4, none⟩ = some (.int .i64 high) ∧ W.cell? ⟨pb, 5, none⟩ = some (.int .i64 wide) ∧ W.cell? ⟨pb, 6, none⟩ = some (.int .i64 rule) ∧ W.cell? ⟨pb, 7, none⟩ = some (.int .i64 top) ∧ W.cell? ⟨pb, 8, none⟩ = some (.int .i64 least) ∧ W.cell? ⟨pb, 9, none⟩ = some (.int .i64 part) ∧ W.cell? ⟨pb, 10, none⟩ = some (.slice A2 n2 c2) ∧ Below w.heap.size w W) W → Calls Try.prog 21 #[.agg #[.string (str code), .slice A1 n1 c1, .int .i64 tick, .int .i64 low, .int .i64 high, .int .i64 wide, .int .i64 rule, .int .i64 top, .int .i64 least, .int .i64 part, .slice A2 n2 c2]] W fun e w' => e = .returned (.int .i64 cn) ∧ Below W.heap.size W w') := Lib.hid (fun W g => HN.out W g.2.2.2.2.2.2.2.2.2.2.2)
  replace HO : Hid (∀ W, (fun W => W.cell? ⟨pb, 0, none⟩ = some (.string (str code)) ∧ W.cell? ⟨pb, 1, none⟩ = some (.slice A1 n1 c1) ∧ W.cell? ⟨pb, 2, none⟩ = some (.int .i64 tick) ∧ W.cell? ⟨pb, 3, none⟩ = some (.int .i64 low) ∧ W.cell? ⟨pb, 4, none⟩ = some (.int .i64 high) ∧ W.cell? ⟨pb, 5, none⟩ = some (.int .i64 wide) ∧ W.cell? ⟨pb, 6, none⟩ = some (.int .i64 rule) ∧ W.cell? ⟨pb, 7, none⟩ = some (.int .i64 top) ∧ W.cell? ⟨pb, 8, none⟩ = some (.int .i64 least) ∧ W.cell? ⟨pb, 9, none⟩ = some (.int .i64 part) ∧ W.cell? ⟨pb, 10, none⟩ = some (.slice A2 n2 c2) ∧ Below w.heap.size w W) W → Calls Try.prog 31 #[.agg #[.string (str code), .slice A1 n1 c1, .int .i64 tick, .int .i64 low, .int .i64 high, .int .i64 wide, .int .i64 rule, .int .i64 top, .int .i64 least, .int .i64 part, .slice A2 n2 c2]] W fun e w' => e = .returned (.int .i64 cn) ∧ Below W.heap.size W w') := Lib.hid (fun W g => HO.out W g.2.2.2.2.2.2.2.2.2.2.2)
  replace HA : Hid (∀ W, (fun W => W.cell? ⟨pb, 0, none⟩ = some (.string (str code)) ∧ W.cell? ⟨pb, 1, none⟩ = some (.slice A1 n1 c1) ∧ W.cell? ⟨pb, 2, none⟩ = some (.int .i64 tick) ∧ W.cell? ⟨pb, 3, none⟩ = some (.int .i64 low) ∧ W.cell? ⟨pb, 4, none⟩ = some (.int .i64 high) ∧ W.cell? ⟨pb, 5, none⟩ = some (.int .i64 wide) ∧ W.cell? ⟨pb, 6, none⟩ = some (.int .i64 rule) ∧ W.cell? ⟨pb, 7, none⟩ = some (.int .i64 top) ∧ W.cell? ⟨pb, 8, none⟩ = some (.int .i64 least) ∧ W.cell? ⟨pb, 9, none⟩ = some (.int .i64 part) ∧ W.cell? ⟨pb, 10, none⟩ = some (.slice A2 n2 c2) ∧ Below w.heap.size w W) W → Calls Try.prog 25 #[.agg #[.string (str code), .slice A1 n1 c1, .int .i64 tick, .int .i64 low, .int .i64 high, .int .i64 wide, .int .i64 rule, .int .i64 top, .int .i64 least, .int .i64 part, .slice A2 n2 c2], .int .i64 inst] W fun e w' => e = .returned (.string (str nm)) ∧ Below W.heap.size W w') := Lib.hid (fun W g => HA.out W g.2.2.2.2.2.2.2.2.2.2.2)
  replace HB : Hid (∀ W, (fun W => W.cell? ⟨pb, 0, none⟩ = some (.string (str code)) ∧ W.cell? ⟨pb, 1, none⟩ = some (.slice A1 n1 c1) ∧ W.cell? ⟨pb, 2, none⟩ = some (.int .i64 tick) ∧ W.cell? ⟨pb, 3, none⟩ = some (.int .i64 low) ∧ W.cell? ⟨pb, 4, none⟩ = some (.int .i64 high) ∧ W.cell? ⟨pb, 5, none⟩ = some (.int .i64 wide) ∧ W.cell? ⟨pb, 6, none⟩ = some (.int .i64 rule) ∧ W.cell? ⟨pb, 7, none⟩ = some (.int .i64 top) ∧ W.cell? ⟨pb, 8, none⟩ = some (.int .i64 least) ∧ W.cell? ⟨pb, 9, none⟩ = some (.int .i64 part) ∧ W.cell? ⟨pb, 10, none⟩ = some (.slice A2 n2 c2) ∧ Below w.heap.size w W) W → Calls Try.prog 20 #[.agg #[.string (str code), .slice A1 n1 c1, .int .i64 tick, .int .i64 low, .int .i64 high, .int .i64 wide, .int .i64 rule, .int .i64 top, .int .i64 least, .int .i64 part, .slice A2 n2 c2], .int .i64 inst] W fun e w' => e = .returned (.string (str nm)) ∧ Below W.heap.size W w') := Lib.hid (fun W g => HB.out W g.2.2.2.2.2.2.2.2.2.2.2)
  replace HP : Hid (∀ W, (fun W => W.cell? ⟨pb, 0, none⟩ = some (.string (str code)) ∧ W.cell? ⟨pb, 1, none⟩ = some (.slice A1 n1 c1) ∧ W.cell? ⟨pb, 2, none⟩ = some (.int .i64 tick) ∧ W.cell? ⟨pb, 3, none⟩ = some (.int .i64 low) ∧ W.cell? ⟨pb, 4, none⟩ = some (.int .i64 high) ∧ W.cell? ⟨pb, 5, none⟩ = some (.int .i64 wide) ∧ W.cell? ⟨pb, 6, none⟩ = some (.int .i64 rule) ∧ W.cell? ⟨pb, 7, none⟩ = some (.int .i64 top) ∧ W.cell? ⟨pb, 8, none⟩ = some (.int .i64 least) ∧ W.cell? ⟨pb, 9, none⟩ = some (.int .i64 part) ∧ W.cell? ⟨pb, 10, none⟩ = some (.slice A2 n2 c2) ∧ Below w.heap.size w W) W → Calls Try.prog 14 #[.agg #[.string (str code), .slice A1 n1 c1, .int .i64 tick, .int .i64 low, .int .i64 high, .int .i64 wide, .int .i64 rule, .int .i64 top, .int .i64 least, .int .i64 part, .slice A2 n2 c2], .int .i64 inst, .int .i64 price] W fun e w' => e = .returned (.int .i64 pr) ∧ Below W.heap.size W w') := Lib.hid (fun W g => HP.out W g.2.2.2.2.2.2.2.2.2.2.2)
  replace HQ : Hid (∀ W, (fun W => W.cell? ⟨pb, 0, none⟩ = some (.string (str code)) ∧ W.cell? ⟨pb, 1, none⟩ = some (.slice A1 n1 c1) ∧ W.cell? ⟨pb, 2, none⟩ = some (.int .i64 tick) ∧ W.cell? ⟨pb, 3, none⟩ = some (.int .i64 low) ∧ W.cell? ⟨pb, 4, none⟩ = some (.int .i64 high) ∧ W.cell? ⟨pb, 5, none⟩ = some (.int .i64 wide) ∧ W.cell? ⟨pb, 6, none⟩ = some (.int .i64 rule) ∧ W.cell? ⟨pb, 7, none⟩ = some (.int .i64 top) ∧ W.cell? ⟨pb, 8, none⟩ = some (.int .i64 least) ∧ W.cell? ⟨pb, 9, none⟩ = some (.int .i64 part) ∧ W.cell? ⟨pb, 10, none⟩ = some (.slice A2 n2 c2) ∧ Below w.heap.size w W) W → Calls Try.prog 32 #[.agg #[.string (str code), .slice A1 n1 c1, .int .i64 tick, .int .i64 low, .int .i64 high, .int .i64 wide, .int .i64 rule, .int .i64 top, .int .i64 least, .int .i64 part, .slice A2 n2 c2], .int .i64 inst, .int .i64 price] W fun e w' => e = .returned (.int .i64 pr) ∧ Below W.heap.size W w') := Lib.hid (fun W g => HQ.out W g.2.2.2.2.2.2.2.2.2.2.2)
  have hz0 := hSof.out _ _ (show (fun W => W.cell? ⟨pb, 0, none⟩ = some (.string (str code)) ∧ W.cell? ⟨pb, 1, none⟩ = some (.slice A1 n1 c1) ∧ W.cell? ⟨pb, 2, none⟩ = some (.int .i64 tick) ∧ W.cell? ⟨pb, 3, none⟩ = some (.int .i64 low) ∧ W.cell? ⟨pb, 4, none⟩ = some (.int .i64 high) ∧ W.cell? ⟨pb, 5, none⟩ = some (.int .i64 wide) ∧ W.cell? ⟨pb, 6, none⟩ = some (.int .i64 rule) ∧ W.cell? ⟨pb, 7, none⟩ = some (.int .i64 top) ∧ W.cell? ⟨pb, 8, none⟩ = some (.int .i64 least) ∧ W.cell? ⟨pb, 9, none⟩ = some (.int .i64 part) ∧ W.cell? ⟨pb, 10, none⟩ = some (.slice A2 n2 c2) ∧ Below w.heap.size w W) w6 from ⟨k0, k1, k2, k3, k4, k5, k6, k7, k8, k9, k10, hB6⟩) ((Below.refl _ w6).drew)
  simp only at hz0
  clear k0 k1 k2 k3 k4 k5 k6 k7 k8 k9 k10 kk hblk6 hpb6 hB6 HO1 HO2
  go_upto_region 7 with (fail)
  simp only [List.append]
  go_region_held3 (fun W => W.cell? ⟨pb, 0, none⟩ = some (.string (str code)) ∧ W.cell? ⟨pb, 1, none⟩ = some (.slice A1 n1 c1) ∧ W.cell? ⟨pb, 2, none⟩ = some (.int .i64 tick) ∧ W.cell? ⟨pb, 3, none⟩ = some (.int .i64 low) ∧ W.cell? ⟨pb, 4, none⟩ = some (.int .i64 high) ∧ W.cell? ⟨pb, 5, none⟩ = some (.int .i64 wide) ∧ W.cell? ⟨pb, 6, none⟩ = some (.int .i64 rule) ∧ W.cell? ⟨pb, 7, none⟩ = some (.int .i64 top) ∧ W.cell? ⟨pb, 8, none⟩ = some (.int .i64 least) ∧ W.cell? ⟨pb, 9, none⟩ = some (.int .i64 part) ∧ W.cell? ⟨pb, 10, none⟩ = some (.slice A2 n2 c2) ∧ Below w.heap.size w W) (first | assumption | exact hz0)
    ((first
      | (go_at_call 13; refine (HC.out _ (by assumption)).mono ?_; rintro e w7 ⟨rfl, b7⟩; have hz7 := hSof.out _ _ (by assumption) b7)
      | (go_at_call 30; refine (HD.out _ (by assumption)).mono ?_; rintro e w8 ⟨rfl, b8⟩; have hz8 := hSof.out _ _ (by assumption) b8)
      | (go_at_call 21; refine (HN.out _ (by assumption)).mono ?_; rintro e w9 ⟨rfl, b9⟩; have hz9 := hSof.out _ _ (by assumption) b9)
      | (go_at_call 31; refine (HO.out _ (by assumption)).mono ?_; rintro e w10 ⟨rfl, b10⟩; have hz10 := hSof.out _ _ (by assumption) b10)
      | (go_at_call 25; refine (HA.out _ (by assumption)).mono ?_; rintro e w11 ⟨rfl, b11⟩; have hz11 := hSof.out _ _ (by assumption) b11)
      | (go_at_call 20; refine (HB.out _ (by assumption)).mono ?_; rintro e w12 ⟨rfl, b12⟩; have hz12 := hSof.out _ _ (by assumption) b12)
      | (go_at_call 14; refine (HP.out _ (by assumption)).mono ?_; rintro e w13 ⟨rfl, b13⟩; have hz13 := hSof.out _ _ (by assumption) b13)
      | (go_at_call 32; refine (HQ.out _ (by assumption)).mono ?_; rintro e w14 ⟨rfl, b14⟩; have hz14 := hSof.out _ _ (by assumption) b14)
    ))
  go_wp2_with fail
  go_ret
  exact ⟨rfl, hz14.2.2.2.2.2.2.2.2.2.2.2⟩
end Go.Proofs.Ytbigmbpclikenaa
