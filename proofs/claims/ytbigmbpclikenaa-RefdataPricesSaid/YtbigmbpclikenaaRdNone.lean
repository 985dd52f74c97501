/-
  The walk of the law RefdataNone.
-/
import Derived.Test.YtbigmbpclikenaaRdLegs
import Derived.Test.YtbigmbpclikenaaRdSpread
import Derived.Test.YtbigmbpclikenaaRdFind
import Derived.Test.YtbigmbpclikenaaRdPrice
import Derived.Test.YtbigmbpclikenaaRdTurned
import Derived.Test.YtbigmbpclikenaaRdKnown
import Derived.Deep.RegionHeld3
import Derived.Deep.Cut
namespace Go.Proofs.Ytbigmbpclikenaa
open Go.RowKit
set_option linter.unusedVariables false
set_option linter.unusedSimpArgs false

theorem cnt_three {p : PD} (h : chk p = 0) : 3 ≤ cntL p := by
  have hn := chk_zero h
  unfold cntL
  rw [if_pos h]
  have cs : p.n1 = 2 ∨ p.n1 = 3 ∨ p.n1 = 4 ∨ p.n1 = 5 ∨ p.n1 = 6 := by omega
  rcases cs with h | h | h | h | h <;> rw [h] <;> decide
theorem none_facts {p : PD} (h : chk p ≠ 0) (inst x near far : Int) (l : List UInt8) : cntL p = 0 ∧ legsL p inst = (0, 0, false) ∧ spreadI p near far = (0, false) ∧ nameL p inst = [] ∧ findI p l = (0, false) ∧ priceL p inst x = 1 := by
  have hc : cntL p = 0 := by unfold cntL; rw [if_neg h]
  refine ⟨hc, legs_none (by rw [hc]; omega), ?_, name_none (by rw [hc]; omega), ?_, ?_⟩
  · unfold spreadI; rw [hc, Nat.zero_sub]; rfl
  · unfold findI; rw [hc]; rfl
  · unfold priceL; rw [if_pos h]
theorem keepP_n (p : PD) (A1 : Option Addr) (c1 : Nat) (A2 : Option Addr) (c2 : Nat) : 2 ≤ (keepP p A1 c1 A2 c2).n1 ∧ (keepP p A1 c1 A2 c2).n1 ≤ 5 ∧ (keepP p A1 c1 A2 c2).n2 = (keepP p A1 c1 A2 c2).n1 := by
  have := withinN_le p.n1 3
  show 2 ≤ 2 + withinN p.n1 3 ∧ 2 + withinN p.n1 3 ≤ 5 ∧ 2 + withinN p.n1 3 = 2 + withinN p.n1 3
  omega
set_option maxRecDepth 100000 in
set_option maxHeartbeats 1600000 in
theorem None_walk (p : PD) (how n inst price : Int) (l : List UInt8) (w : World) (h : Hid (p.Fit w)) (hh : I64 how) (hn : I64 n) (hi : I64 inst) (hp : I64 price) :
    Calls Try.prog 9 #[p.val, .int .i64 how, .int .i64 n, .int .i64 inst, .int .i64 price, .string (str l)] w fun e w' => e = .returned (.bool true) ∧ Below w.heap.size w w' := by
  have HK : Hid (∀ W, Below w.heap.size w W → Calls Try.prog 18 #[p.val] W fun e w' => ∃ q : PD, (2 ≤ q.n1 ∧ q.n1 ≤ 5 ∧ q.n2 = q.n1) ∧ e = .returned q.val ∧ q.Ok w' ∧ Below W.heap.size W w') := Lib.hid (fun W b => (KProduct_any p W (Lib.hid (h.out.below b))).mono fun e w' ⟨A1, c1, A2, c2, h1, h2, h3⟩ => ⟨_, keepP_n p A1 c1 A2 c2, h1, h2, h3⟩)
  clear h
  obtain ⟨code, A1, n1, c1, tick, low, high, wide, rule, top, least, part, A2, n2, c2, Q, R⟩ := p
  replace HK : Hid (∀ W, Below w.heap.size w W → Calls Try.prog 18 #[.agg #[.string (str code), .slice A1 n1 c1, .int .i64 tick, .int .i64 low, .int .i64 high, .int .i64 wide, .int .i64 rule, .int .i64 top, .int .i64 least, .int .i64 part, .slice A2 n2 c2]] W fun e w' => ∃ q : PD, (2 ≤ q.n1 ∧ q.n1 ≤ 5 ∧ q.n2 = q.n1) ∧ e = .returned q.val ∧ q.Ok w' ∧ Below W.heap.size W w') := HK
  show Calls Try.prog 9 #[.agg #[.string (str code), .slice A1 n1 c1, .int .i64 tick, .int .i64 low, .int .i64 high, .int .i64 wide, .int .i64 rule, .int .i64 top, .int .i64 least, .int .i64 part, .slice A2 n2 c2], .int .i64 how, .int .i64 n, .int .i64 inst, .int .i64 price, .string (str l)] w _
  obtain ⟨W0, eW0⟩ : ∃ W0, w.alloc (.cells #[.string (str code), .slice A1 n1 c1, .int .i64 tick, .int .i64 low, .int .i64 high, .int .i64 wide, .int .i64 rule, .int .i64 top, .int .i64 least, .int .i64 part, .slice A2 n2 c2] 25) = W0 := ⟨_, rfl⟩
  obtain ⟨pb, epb⟩ : ∃ pb, w.heap.size = pb := ⟨_, rfl⟩
  have hblk0 : W0.heap[pb]? = some (.cells #[.string (str code), .slice A1 n1 c1, .int .i64 tick, .int .i64 low, .int .i64 high, .int .i64 wide, .int .i64 rule, .int .i64 top, .int .i64 least, .int .i64 part, .slice A2 n2 c2] 25 (0, 0)) := by
    rw [← eW0, ← epb]; exact heap_alloc_new w _
  have hB0 : Below w.heap.size w W0 := by rw [← eW0]; exact (Below.refl _ w).alloc (Nat.le_refl _) _
  have hpb0 : pb < W0.heap.size := (Array.getElem?_eq_some_iff.1 hblk0).1
  have kk : ∀ W : World, W.heap[pb]? = some (.cells #[.string (str code), .slice A1 n1 c1, .int .i64 tick, .int .i64 low, .int .i64 high, .int .i64 wide, .int .i64 rule, .int .i64 top, .int .i64 least, .int .i64 part, .slice A2 n2 c2] 25 (0, 0)) → W.cell? ⟨pb, 0, none⟩ = some (.string (str code)) ∧ W.cell? ⟨pb, 1, none⟩ = some (.slice A1 n1 c1) ∧ W.cell? ⟨pb, 2, none⟩ = some (.int .i64 tick) ∧ W.cell? ⟨pb, 3, none⟩ = some (.int .i64 low) ∧ W.cell? ⟨pb, 4, none⟩ = some (.int .i64 high) ∧ W.cell? ⟨pb, 5, none⟩ = some (.int .i64 wide) ∧ W.cell? ⟨pb, 6, none⟩ = some (.int .i64 rule) ∧ W.cell? ⟨pb, 7, none⟩ = some (.int .i64 top) ∧ W.cell? ⟨pb, 8, none⟩ = some (.int .i64 least) ∧ W.cell? ⟨pb, 9, none⟩ = some (.int .i64 part) ∧ W.cell? ⟨pb, 10, none⟩ = some (.slice A2 n2 c2) := by
    intro W hb
    refine ⟨?_, ?_, ?_, ?_, ?_, ?_, ?_, ?_, ?_, ?_, ?_⟩ <;> (rw [Lib.cell_of_heap hb]; rfl)
  replace kk := Lib.hid kk
  replace eW0 := Lib.hid eW0
  replace epb := Lib.hid epb
  have a0 : (w.alloc (.cells #[.string (str code), .slice A1 n1 c1, .int .i64 tick, .int .i64 low, .int .i64 high, .int .i64 wide, .int .i64 rule, .int .i64 top, .int .i64 least, .int .i64 part, .slice A2 n2 c2] 25)).cell? ⟨w.heap.size, 0, none⟩ = some (.string (str code)) := by
    rw [eW0.out, epb.out]; exact (kk.out W0 hblk0).1
  have a1 : (w.alloc (.cells #[.string (str code), .slice A1 n1 c1, .int .i64 tick, .int .i64 low, .int .i64 high, .int .i64 wide, .int .i64 rule, .int .i64 top, .int .i64 least, .int .i64 part, .slice A2 n2 c2] 25)).cell? ⟨w.heap.size, 1, none⟩ = some (.slice A1 n1 c1) := by
    rw [eW0.out, epb.out]; exact (kk.out W0 hblk0).2.1
  have a2 : (w.alloc (.cells #[.string (str code), .slice A1 n1 c1, .int .i64 tick, .int .i64 low, .int .i64 high, .int .i64 wide, .int .i64 rule, .int .i64 top, .int .i64 least, .int .i64 part, .slice A2 n2 c2] 25)).cell? ⟨w.heap.size, 2, none⟩ = some (.int .i64 tick) := by
    rw [eW0.out, epb.out]; exact (kk.out W0 hblk0).2.2.1
  have a3 : (w.alloc (.cells #[.string (str code), .slice A1 n1 c1, .int .i64 tick, .int .i64 low, .int .i64 high, .int .i64 wide, .int .i64 rule, .int .i64 top, .int .i64 least, .int .i64 part, .slice A2 n2 c2] 25)).cell? ⟨w.heap.size, 3, none⟩ = some (.int .i64 low) := by
    rw [eW0.out, epb.out]; exact (kk.out W0 hblk0).2.2.2.1
  have a4 : (w.alloc (.cells #[.string (str code), .slice A1 n1 c1, .int .i64 tick, .int .i64 low, .int .i64 high, .int .i64 wide, .int .i64 rule, .int .i64 top, .int .i64 least, .int .i64 part, .slice A2 n2 c2] 25)).cell? ⟨w.heap.size, 4, none⟩ = some (.int .i64 high) := by
    rw [eW0.out, epb.out]; exact (kk.out W0 hblk0).2.2.2.2.1
  have a5 : (w.alloc (.cells #[.string (str code), .slice A1 n1 c1, .int .i64 tick, .int .i64 low, .int .i64 high, .int .i64 wide, .int .i64 rule, .int .i64 top, .int .i64 least, .int .i64 part, .slice A2 n2 c2] 25)).cell? ⟨w.heap.size, 5, none⟩ = some (.int .i64 wide) := by
    rw [eW0.out, epb.out]; exact (kk.out W0 hblk0).2.2.2.2.2.1
  have a6 : (w.alloc (.cells #[.string (str code), .slice A1 n1 c1, .int .i64 tick, .int .i64 low, .int .i64 high, .int .i64 wide, .int .i64 rule, .int .i64 top, .int .i64 least, .int .i64 part, .slice A2 n2 c2] 25)).cell? ⟨w.heap.size, 6, none⟩ = some (.int .i64 rule) := by
    rw [eW0.out, epb.out]; exact (kk.out W0 hblk0).2.2.2.2.2.2.1
  have a7 : (w.alloc (.cells #[.string (str code), .slice A1 n1 c1, .int .i64 tick, .int .i64 low, .int .i64 high, .int .i64 wide, .int .i64 rule, .int .i64 top, .int .i64 least, .int .i64 part, .slice A2 n2 c2] 25)).cell? ⟨w.heap.size, 7, none⟩ = some (.int .i64 top) := by
    rw [eW0.out, epb.out]; exact (kk.out W0 hblk0).2.2.2.2.2.2.2.1
  have a8 : (w.alloc (.cells #[.string (str code), .slice A1 n1 c1, .int .i64 tick, .int .i64 low, .int .i64 high, .int .i64 wide, .int .i64 rule, .int .i64 top, .int .i64 least, .int .i64 part, .slice A2 n2 c2] 25)).cell? ⟨w.heap.size, 8, none⟩ = some (.int .i64 least) := by
    rw [eW0.out, epb.out]; exact (kk.out W0 hblk0).2.2.2.2.2.2.2.2.1
  have a9 : (w.alloc (.cells #[.string (str code), .slice A1 n1 c1, .int .i64 tick, .int .i64 low, .int .i64 high, .int .i64 wide, .int .i64 rule, .int .i64 top, .int .i64 least, .int .i64 part, .slice A2 n2 c2] 25)).cell? ⟨w.heap.size, 9, none⟩ = some (.int .i64 part) := by
    rw [eW0.out, epb.out]; exact (kk.out W0 hblk0).2.2.2.2.2.2.2.2.2.1
  have a10 : (w.alloc (.cells #[.string (str code), .slice A1 n1 c1, .int .i64 tick, .int .i64 low, .int .i64 high, .int .i64 wide, .int .i64 rule, .int .i64 top, .int .i64 least, .int .i64 part, .slice A2 n2 c2] 25)).cell? ⟨w.heap.size, 10, none⟩ = some (.slice A2 n2 c2) := by
    rw [eW0.out, epb.out]; exact (kk.out W0 hblk0).2.2.2.2.2.2.2.2.2.2
  go_enter Try.func9, Try.ntmps9
  go_wp2_with fail
  rw [eW0.out]
  rw [epb.out]
  clear a0 a1 a2 a3 a4 a5 a6 a7 a8 a9 a10 eW0
  obtain ⟨k0, k1, k2, k3, k4, k5, k6, k7, k8, k9, k10⟩ := kk.out W0 hblk0
  refine (HK.out W0 hB0).mono ?_
  clear HK
  rintro e w1 ⟨q, ⟨q1, q2, q3⟩, rfl, hOk, b1⟩
  have hB1 := hB0.trans (b1.mono hB0.size)
  clear k0 k1 k2 k3 k4 k5 k6 k7 k8 k9 k10 kk hblk0 hpb0 hB0 b1
  have HW := Lib.hid (Within_any how 13 w1 (by omega) hh.1 hh.2)
  have HT := Lib.hid (fun k : Nat => fun hk : k ≤ 13 => Turned_any q k n w1 (Lib.hid hOk) ⟨by omega, by omega⟩ hn (by omega) (by omega) (by omega) (by omega))
  have hk := withinN_le how 13
  obtain ⟨kh, ekh⟩ : ∃ k, withinN how 13 = k := ⟨_, rfl⟩
  rw [ekh] at HW hk
  clear ekh
  replace HT := Lib.hid (HT.out kh hk)
  obtain ⟨v1, ev1⟩ : ∃ v, q.val = v := ⟨_, rfl⟩
  rw [ev1] at HT ⊢
  clear ev1 hOk q1 q2 q3
  go_wp2_with fail
  refine HW.out.mono ?_
  rintro e w1 ⟨rfl, rfl⟩
  go_wp2_with fail
  refine HT.out.mono ?_
  clear HT HW
  rintro e w3 ⟨d, rfl, hOk, b3⟩
  have hB3 := hB1.trans (b3.mono hB1.size)
  clear hB1 b3
  obtain ⟨e0, he0⟩ : ∃ e, chk d = e := ⟨_, rfl⟩
  have HC : Hid (∀ W, Below w3.heap.size w3 W → Calls Try.prog 13 #[d.val] W fun e w' => e = .returned (.int .i64 e0) ∧ Below W.heap.size W w') := Lib.hid (fun W g => by rw [← he0]; exact PCheck_any d W (Lib.hid (hOk.below g)))
  obtain ⟨cn, hcn⟩ : ∃ c, cntL d = c := ⟨_, rfl⟩
  have HN : Hid (∀ W, Below w3.heap.size w3 W → Calls Try.prog 21 #[d.val] W fun e w' => e = .returned (.int .i64 cn) ∧ Below W.heap.size W w') := Lib.hid (fun W g => by rw [← hcn]; exact PCount_any d W (Lib.hid (hOk.below g)))
  have h3 : e0 = 0 → 3 ≤ cn := fun g => by rw [← hcn]; exact cnt_three (he0.trans g)
  have hz : e0 ≠ 0 → cn = 0 := fun g => by rw [← hcn]; exact (none_facts (by rw [he0]; exact g) 0 0 0 0 []).1
  have HL : Hid (e0 ≠ 0 → ∀ W, Below w3.heap.size w3 W → Calls Try.prog 22 #[d.val, .int .i64 inst] W fun e w' => e = .returned (.tuple #[.int .i64 0, .int .i64 0, .bool false]) ∧ Below W.heap.size W w') := Lib.hid (fun ne W g => by have := PLegs_any d inst W (Lib.hid (hOk.below g)) hi; rw [(none_facts (by rw [he0]; exact ne) inst 0 0 0 []).2.1] at this; exact this)
  have HS : Hid (e0 ≠ 0 → ∀ W, Below w3.heap.size w3 W → Calls Try.prog 23 #[d.val, .int .i64 0, .int .i64 1] W fun e w' => e = .returned (.tuple #[.int .i64 0, .bool false]) ∧ Below W.heap.size W w') := Lib.hid (fun ne W g => by have := PSpreads_any d 0 1 W (Lib.hid (hOk.below g)) ⟨by omega, by omega⟩ ⟨by omega, by omega⟩; rw [(none_facts (by rw [he0]; exact ne) 0 0 0 1 []).2.2.1] at this; exact this)
  have HF : Hid (e0 ≠ 0 → ∀ W, Below w3.heap.size w3 W → Calls Try.prog 24 #[d.val, .string (str (l.take 40))] W fun e w' => e = .returned (.tuple #[.int .i64 0, .bool false]) ∧ Below W.heap.size W w') := Lib.hid (fun ne W g => by have := PFind_any d (l.take 40) W (Lib.hid (hOk.below g)); rw [(none_facts (by rw [he0]; exact ne) 0 0 0 0 (l.take 40)).2.2.2.2.1] at this; exact this)
  have HA : Hid (e0 ≠ 0 → ∀ W, Below w3.heap.size w3 W → Calls Try.prog 25 #[d.val, .int .i64 inst] W fun e w' => e = .returned (.string (str [])) ∧ Below W.heap.size W w') := Lib.hid (fun ne W g => by have := PName_any d inst W (Lib.hid (hOk.below g)) hi; rw [(none_facts (by rw [he0]; exact ne) inst 0 0 0 []).2.2.2.1] at this; exact this)
  have HP : Hid (e0 ≠ 0 → ∀ W, Below w3.heap.size w3 W → Calls Try.prog 14 #[d.val, .int .i64 inst, .int .i64 price] W fun e w' => e = .returned (.int .i64 ((1 : Nat) : Int)) ∧ Below W.heap.size W w') := Lib.hid (fun ne W g => by have := PPrice_any d inst price W (Lib.hid (hOk.below g)) hi hp; rw [(none_facts (by rw [he0]; exact ne) inst price 0 0 []).2.2.2.2.2] at this; exact this)
  clear he0 hcn
  obtain ⟨code, A1, n1, c1, tick, low, high, wide, rule, top, least, part, A2, n2, c2, Q, R⟩ := d
  replace HC : Hid (∀ W, Below w3.heap.size w3 W → Calls Try.prog 13 #[.agg #[.string (str code), .slice A1 n1 c1, .int .i64 tick, .int .i64 low, .int .i64 high, .int .i64 wide, .int .i64 rule, .int .i64 top, .int .i64 least, .int .i64 part, .slice A2 n2 c2]] W fun e w' => e = .returned (.int .i64 e0) ∧ Below W.heap.size W w') := HC
  replace HN : Hid (∀ W, Below w3.heap.size w3 W → Calls Try.prog 21 #[.agg #[.string (str code), .slice A1 n1 c1, .int .i64 tick, .int .i64 low, .int .i64 high, .int .i64 wide, .int .i64 rule, .int .i64 top, .int .i64 least, .int .i64 part, .slice A2 n2 c2]] W fun e w' => e = .returned (.int .i64 cn) ∧ Below W.heap.size W w') := HN
  replace HL : Hid (e0 ≠ 0 → ∀ W, Below w3.heap.size w3 W → Calls Try.prog 22 #[.agg #[.string (str code), .slice A1 n1 c1, .int .i64 tick, .int .i64 low, .int .i64 high, .int .i64 wide, .int .i64 rule, .int .i64 top, .int .i64 least, .int .i64 part, .slice A2 n2 c2], .int .i64 inst] W fun e w' => e = .returned (.tuple #[.int .i64 0, .int .i64 0, .bool false]) ∧ Below W.heap.size W w') := HL
  replace HS : Hid (e0 ≠ 0 → ∀ W, Below w3.heap.size w3 W → Calls Try.prog 23 #[.agg #[.string (str code), .slice A1 n1 c1, .int .i64 tick, .int .i64 low, .int .i64 high, .int .i64 wide, .int .i64 rule, .int .i64 top, .int .i64 least, .int .i64 part, .slice A2 n2 c2], .int .i64 0, .int .i64 1] W fun e w' => e = .returned (.tuple #[.int .i64 0, .bool false]) ∧ Below W.heap.size W w') := HS
  replace HF : Hid (e0 ≠ 0 → ∀ W, Below w3.heap.size w3 W → Calls Try.prog 24 #[.agg #[.string (str code), .slice A1 n1 c1, .int .i64 tick, .int .i64 low, .int .i64 high, .int .i64 wide, .int .i64 rule, .int .i64 top, .int .i64 least, .int .i64 part, .slice A2 n2 c2], .string (str (l.take 40))] W fun e w' => e = .returned (.tuple #[.int .i64 0, .bool false]) ∧ Below W.heap.size W w') := HF
  replace HA : Hid (e0 ≠ 0 → ∀ W, Below w3.heap.size w3 W → Calls Try.prog 25 #[.agg #[.string (str code), .slice A1 n1 c1, .int .i64 tick, .int .i64 low, .int .i64 high, .int .i64 wide, .int .i64 rule, .int .i64 top, .int .i64 least, .int .i64 part, .slice A2 n2 c2], .int .i64 inst] W fun e w' => e = .returned (.string (str [])) ∧ Below W.heap.size W w') := HA
  replace HP : Hid (e0 ≠ 0 → ∀ W, Below w3.heap.size w3 W → Calls Try.prog 14 #[.agg #[.string (str code), .slice A1 n1 c1, .int .i64 tick, .int .i64 low, .int .i64 high, .int .i64 wide, .int .i64 rule, .int .i64 top, .int .i64 least, .int .i64 part, .slice A2 n2 c2], .int .i64 inst, .int .i64 price] W fun e w' => e = .returned (.int .i64 ((1 : Nat) : Int)) ∧ Below W.heap.size W w') := HP
  rw [show PD.val ⟨code, A1, n1, c1, tick, low, high, wide, rule, top, least, part, A2, n2, c2, Q, R⟩ = .agg #[.string (str code), .slice A1 n1 c1, .int .i64 tick, .int .i64 low, .int .i64 high, .int .i64 wide, .int .i64 rule, .int .i64 top, .int .i64 least, .int .i64 part, .slice A2 n2 c2] from rfl]
  replace h3 := Lib.hid h3
  replace hz := Lib.hid hz
  obtain ⟨qb, eqb⟩ : ∃ q, w3.heap.size = q := ⟨_, rfl⟩
  obtain ⟨W4, eW4⟩ : ∃ W, w3.alloc (.cells #[.string (str code), .slice A1 n1 c1, .int .i64 tick, .int .i64 low, .int .i64 high, .int .i64 wide, .int .i64 rule, .int .i64 top, .int .i64 least, .int .i64 part, .slice A2 n2 c2] 25) = W := ⟨_, rfl⟩
  have H0 : W4.heap[qb]? = some (.cells #[.string (str code), .slice A1 n1 c1, .int .i64 tick, .int .i64 low, .int .i64 high, .int .i64 wide, .int .i64 rule, .int .i64 top, .int .i64 least, .int .i64 part, .slice A2 n2 c2] 25 (0, 0)) := by rw [← eW4, ← eqb]; exact heap_alloc_new w3 _
  have hB4 : Below w.heap.size w W4 := by rw [← eW4]; exact hB3.alloc hB3.size _
  have B4 : Below w3.heap.size w3 W4 := by rw [← eW4]; exact (Below.refl _ w3).alloc (Nat.le_refl _) _
  replace eW4 := Lib.hid eW4
  clear hB3 hOk
  go_upto_region 2 with (fail)
  rw [eW4.out]
  clear eW4
  obtain ⟨k0, k1, k2, k3, k4, k5, k6, k7, k8, k9, k10⟩ := row11 H0
  have hB0 := hB4
  have B0 := B4
  clear hB4 B4
  go_wp2_with fail
  refine (HC.out W4 B0).mono ?_
  clear HC
  rintro e u1 ⟨rfl, b1⟩
  have H1 : u1.heap[qb]? = _ := (b1.block qb (Array.getElem?_eq_some_iff.1 H0).1).trans H0
  have hB1 := hB0.trans (b1.mono hB0.size)
  have B1 : Below w3.heap.size w3 u1 := B0.trans (b1.mono B0.size)
  clear k0 k1 k2 k3 k4 k5 k6 k7 k8 k9 k10
  obtain ⟨k0, k1, k2, k3, k4, k5, k6, k7, k8, k9, k10⟩ := row11 H1
  clear H0 hB0 B0 b1
  by_cases q0 : e0 = 0
  case pos =>
    have c3 := h3.out q0
    subst q0
    clear hz h3 HL HS HF HA HP
    have f0 : (((0 : Nat) : Int) == 0) = true := by decide
    have d1 : decide ((3 : Int) ≤ (cn : Int)) = true := decide_eq_true (by omega)
    have d2 : decide (3 ≤ cn) = true := decide_eq_true c3
    go_wp2_with fail
    refine (HN.out u1 B1).mono ?_
    clear HN
    rintro e u2 ⟨rfl, b2⟩
    have H2 : u2.heap[qb]? = _ := (b2.block qb (Array.getElem?_eq_some_iff.1 H1).1).trans H1
    have hB2 := hB1.trans (b2.mono hB1.size)
    have B2 : Below w3.heap.size w3 u2 := B1.trans (b2.mono B1.size)
    clear k0 k1 k2 k3 k4 k5 k6 k7 k8 k9 k10
    obtain ⟨k0, k1, k2, k3, k4, k5, k6, k7, k8, k9, k10⟩ := row11 H2
    clear H1 hB1 B1 b2
    go_wp2_with fail
    refine (Known_any u2).mono ?_
    rintro e u3 ⟨rfl, b3⟩
    have H3 : u3.heap[qb]? = _ := (b3.block qb (Array.getElem?_eq_some_iff.1 H2).1).trans H2
    have hB3 := hB2.trans (b3.mono hB2.size)
    have B3 : Below w3.heap.size w3 u3 := B2.trans (b3.mono B2.size)
    clear k0 k1 k2 k3 k4 k5 k6 k7 k8 k9 k10
    obtain ⟨k0, k1, k2, k3, k4, k5, k6, k7, k8, k9, k10⟩ := row11 H3
    clear H2 hB2 B2 b3
    go_wp2_with fail
    go_ret
    exact ⟨rfl, hB3⟩
  case neg =>
    have c3 := hz.out q0
    have HL2 := Lib.hid (HL.out q0)
    have HS2 := Lib.hid (HS.out q0)
    have HF2 := Lib.hid (HF.out q0)
    have HA2 := Lib.hid (HA.out q0)
    have HP2 := Lib.hid (HP.out q0)
    clear HL HS HF HA HP h3 hz
    have f0 : ((e0 : Int) == 0) = false := by simp; omega
    subst c3
    go_wp2_with fail
    refine (HL2.out u1 B1).mono ?_
    clear HL2
    rintro e u2 ⟨rfl, b2⟩
    have H2 : u2.heap[qb]? = _ := (b2.block qb (Array.getElem?_eq_some_iff.1 H1).1).trans H1
    have hB2 := hB1.trans (b2.mono hB1.size)
    have B2 : Below w3.heap.size w3 u2 := B1.trans (b2.mono B1.size)
    clear k0 k1 k2 k3 k4 k5 k6 k7 k8 k9 k10
    obtain ⟨k0, k1, k2, k3, k4, k5, k6, k7, k8, k9, k10⟩ := row11 H2
    clear H1 hB1 B1 b2
    go_wp2_with fail
    refine (HS2.out u2 B2).mono ?_
    clear HS2
    rintro e u3 ⟨rfl, b3⟩
    have H3 : u3.heap[qb]? = _ := (b3.block qb (Array.getElem?_eq_some_iff.1 H2).1).trans H2
    have hB3 := hB2.trans (b3.mono hB2.size)
    have B3 : Below w3.heap.size w3 u3 := B2.trans (b3.mono B2.size)
    clear k0 k1 k2 k3 k4 k5 k6 k7 k8 k9 k10
    obtain ⟨k0, k1, k2, k3, k4, k5, k6, k7, k8, k9, k10⟩ := row11 H3
    clear H2 hB2 B2 b3
    have hSof : Hid (∀ W W' : World, (fun W => W.cell? ⟨qb, 0, none⟩ = some (.string (str code)) ∧ W.cell? ⟨qb, 1, none⟩ = some (.slice A1 n1 c1) ∧ W.cell? ⟨qb, 2, none⟩ = some (.int .i64 tick) ∧ W.cell? ⟨qb, 3, none⟩ = some (.int .i64 low) ∧ W.cell? ⟨qb, 4, none⟩ = some (.int .i64 high) ∧ W.cell? ⟨qb, 5, none⟩ = some (.int .i64 wide) ∧ W.cell? ⟨qb, 6, none⟩ = some (.int .i64 rule) ∧ W.cell? ⟨qb, 7, none⟩ = some (.int .i64 top) ∧ W.cell? ⟨qb, 8, none⟩ = some (.int .i64 least) ∧ W.cell? ⟨qb, 9, none⟩ = some (.int .i64 part) ∧ W.cell? ⟨qb, 10, none⟩ = some (.slice A2 n2 c2) ∧ Below w.heap.size w W ∧ Below w3.heap.size w3 W) W → Below W.heap.size W W' → (fun W => W.cell? ⟨qb, 0, none⟩ = some (.string (str code)) ∧ W.cell? ⟨qb, 1, none⟩ = some (.slice A1 n1 c1) ∧ W.cell? ⟨qb, 2, none⟩ = some (.int .i64 tick) ∧ W.cell? ⟨qb, 3, none⟩ = some (.int .i64 low) ∧ W.cell? ⟨qb, 4, none⟩ = some (.int .i64 high) ∧ W.cell? ⟨qb, 5, none⟩ = some (.int .i64 wide) ∧ W.cell? ⟨qb, 6, none⟩ = some (.int .i64 rule) ∧ W.cell? ⟨qb, 7, none⟩ = some (.int .i64 top) ∧ W.cell? ⟨qb, 8, none⟩ = some (.int .i64 least) ∧ W.cell? ⟨qb, 9, none⟩ = some (.int .i64 part) ∧ W.cell? ⟨qb, 10, none⟩ = some (.slice A2 n2 c2) ∧ Below w.heap.size w W ∧ Below w3.heap.size w3 W) W') := Lib.hid (fun W W' h b => ⟨(b.cell (World.block_lt_of_cell? W _ h.1)).trans h.1, (b.cell (World.block_lt_of_cell? W _ h.2.1)).trans h.2.1, (b.cell (World.block_lt_of_cell? W _ h.2.2.1)).trans h.2.2.1, (b.cell (World.block_lt_of_cell? W _ h.2.2.2.1)).trans h.2.2.2.1, (b.cell (World.block_lt_of_cell? W _ h.2.2.2.2.1)).trans h.2.2.2.2.1, (b.cell (World.block_lt_of_cell? W _ h.2.2.2.2.2.1)).trans h.2.2.2.2.2.1, (b.cell (World.block_lt_of_cell? W _ h.2.2.2.2.2.2.1)).trans h.2.2.2.2.2.2.1, (b.cell (World.block_lt_of_cell? W _ h.2.2.2.2.2.2.2.1)).trans h.2.2.2.2.2.2.2.1, (b.cell (World.block_lt_of_cell? W _ h.2.2.2.2.2.2.2.2.1)).trans h.2.2.2.2.2.2.2.2.1, (b.cell (World.block_lt_of_cell? W _ h.2.2.2.2.2.2.2.2.2.1)).trans h.2.2.2.2.2.2.2.2.2.1, (b.cell (World.block_lt_of_cell? W _ h.2.2.2.2.2.2.2.2.2.2.1)).trans h.2.2.2.2.2.2.2.2.2.2.1, h.2.2.2.2.2.2.2.2.2.2.2.1.trans (b.mono h.2.2.2.2.2.2.2.2.2.2.2.1.size), h.2.2.2.2.2.2.2.2.2.2.2.2.trans (b.mono h.2.2.2.2.2.2.2.2.2.2.2.2.size)⟩)
    have hz0 := hSof.out _ _ (show (fun W => W.cell? ⟨qb, 0, none⟩ = some (.string (str code)) ∧ W.cell? ⟨qb, 1, none⟩ = some (.slice A1 n1 c1) ∧ W.cell? ⟨qb, 2, none⟩ = some (.int .i64 tick) ∧ W.cell? ⟨qb, 3, none⟩ = some (.int .i64 low) ∧ W.cell? ⟨qb, 4, none⟩ = some (.int .i64 high) ∧ W.cell? ⟨qb, 5, none⟩ = some (.int .i64 wide) ∧ W.cell? ⟨qb, 6, none⟩ = some (.int .i64 rule) ∧ W.cell? ⟨qb, 7, none⟩ = some (.int .i64 top) ∧ W.cell? ⟨qb, 8, none⟩ = some (.int .i64 least) ∧ W.cell? ⟨qb, 9, none⟩ = some (.int .i64 part) ∧ W.cell? ⟨qb, 10, none⟩ = some (.slice A2 n2 c2) ∧ Below w.heap.size w W ∧ Below w3.heap.size w3 W) u3 from ⟨k0, k1, k2, k3, k4, k5, k6, k7, k8, k9, k10, hB3, B3⟩) ((Below.refl _ u3).drew)
    simp only at hz0
    have HF3 : Hid (∀ W, (fun W => W.cell? ⟨qb, 0, none⟩ = some (.string (str code)) ∧ W.cell? ⟨qb, 1, none⟩ = some (.slice A1 n1 c1) ∧ W.cell? ⟨qb, 2, none⟩ = some (.int .i64 tick) ∧ W.cell? ⟨qb, 3, none⟩ = some (.int .i64 low) ∧ W.cell? ⟨qb, 4, none⟩ = some (.int .i64 high) ∧ W.cell? ⟨qb, 5, none⟩ = some (.int .i64 wide) ∧ W.cell? ⟨qb, 6, none⟩ = some (.int .i64 rule) ∧ W.cell? ⟨qb, 7, none⟩ = some (.int .i64 top) ∧ W.cell? ⟨qb, 8, none⟩ = some (.int .i64 least) ∧ W.cell? ⟨qb, 9, none⟩ = some (.int .i64 part) ∧ W.cell? ⟨qb, 10, none⟩ = some (.slice A2 n2 c2) ∧ Below w.heap.size w W ∧ Below w3.heap.size w3 W) W → Calls Try.prog 24 #[.agg #[.string (str code), .slice A1 n1 c1, .int .i64 tick, .int .i64 low, .int .i64 high, .int .i64 wide, .int .i64 rule, .int .i64 top, .int .i64 least, .int .i64 part, .slice A2 n2 c2], .string (str (l.take 40))] W fun e w' => e = .returned (.tuple #[.int .i64 0, .bool false]) ∧ Below W.heap.size W w') := Lib.hid (fun W g => HF2.out W g.2.2.2.2.2.2.2.2.2.2.2.2)
    clear HF2 k0 k1 k2 k3 k4 k5 k6 k7 k8 k9 k10 hB3 B3
    go_upto_region 6 with (fail)
    go_region_held3 (fun W => W.cell? ⟨qb, 0, none⟩ = some (.string (str code)) ∧ W.cell? ⟨qb, 1, none⟩ = some (.slice A1 n1 c1) ∧ W.cell? ⟨qb, 2, none⟩ = some (.int .i64 tick) ∧ W.cell? ⟨qb, 3, none⟩ = some (.int .i64 low) ∧ W.cell? ⟨qb, 4, none⟩ = some (.int .i64 high) ∧ W.cell? ⟨qb, 5, none⟩ = some (.int .i64 wide) ∧ W.cell? ⟨qb, 6, none⟩ = some (.int .i64 rule) ∧ W.cell? ⟨qb, 7, none⟩ = some (.int .i64 top) ∧ W.cell? ⟨qb, 8, none⟩ = some (.int .i64 least) ∧ W.cell? ⟨qb, 9, none⟩ = some (.int .i64 part) ∧ W.cell? ⟨qb, 10, none⟩ = some (.slice A2 n2 c2) ∧ Below w.heap.size w W ∧ Below w3.heap.size w3 W) (first | assumption | exact hz0)
      ((first
        | (go_at_call 17; refine (Head_any l 40 _ (by omega)).mono ?_; rintro e w4 ⟨rfl, rfl⟩)
        | (go_at_call 24; refine (HF3.out _ (by assumption)).mono ?_; rintro e w5 ⟨rfl, b5⟩; have hz5 := hSof.out _ _ (by assumption) b5)))
    clear HF3 hz0
    obtain ⟨k0, k1, k2, k3, k4, k5, k6, k7, k8, k9, k10, -, -⟩ := id hz5
    have hnm : ((str []).toList == []) = true := by rw [ByteArray.toList_eq]; rfl
    have hnm2 : (str []).toList = [] := by rw [ByteArray.toList_eq]; rfl
    go_wp2_with fail
    refine (HN.out _ hz5.2.2.2.2.2.2.2.2.2.2.2.2).mono ?_
    clear HN
    rintro e v1x ⟨rfl, bx⟩
    have zv1x := hSof.out _ _ hz5 bx
    clear k0 k1 k2 k3 k4 k5 k6 k7 k8 k9 k10 hz5 bx
    obtain ⟨k0, k1, k2, k3, k4, k5, k6, k7, k8, k9, k10, -, -⟩ := id zv1x
    go_wp2_with fail
    refine (HA2.out _ zv1x.2.2.2.2.2.2.2.2.2.2.2.2).mono ?_
    clear HA2
    rintro e v2x ⟨rfl, bx⟩
    have zv2x := hSof.out _ _ zv1x bx
    clear k0 k1 k2 k3 k4 k5 k6 k7 k8 k9 k10 zv1x bx
    obtain ⟨k0, k1, k2, k3, k4, k5, k6, k7, k8, k9, k10, -, -⟩ := id zv2x
    go_wp2_with fail
    refine (HP2.out _ zv2x.2.2.2.2.2.2.2.2.2.2.2.2).mono ?_
    clear HP2
    rintro e v3x ⟨rfl, bx⟩
    have zv3x := hSof.out _ _ zv2x bx
    clear k0 k1 k2 k3 k4 k5 k6 k7 k8 k9 k10 zv2x bx
    obtain ⟨k0, k1, k2, k3, k4, k5, k6, k7, k8, k9, k10, -, -⟩ := id zv3x
    go_wp2_with fail
    refine (Known_any _).mono ?_
    rintro e v4x ⟨rfl, bx⟩
    have zv4x := hSof.out _ _ zv3x bx
    clear k0 k1 k2 k3 k4 k5 k6 k7 k8 k9 k10 zv3x bx
    obtain ⟨k0, k1, k2, k3, k4, k5, k6, k7, k8, k9, k10, -, -⟩ := id zv4x
    go_wp2_with fail
    go_ret
    exact ⟨rfl, zv4x.2.2.2.2.2.2.2.2.2.2.2.1⟩
end Go.Proofs.Ytbigmbpclikenaa
