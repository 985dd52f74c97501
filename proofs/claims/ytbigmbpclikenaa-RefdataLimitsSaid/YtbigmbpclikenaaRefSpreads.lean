/-
  Contract: Spread, of the document's own answer.
-/
import Derived.Test.YtbigmbpclikenaaRefPrice
namespace Go.Proofs.Ytbigmbpclikenaa
open Go.RowKit
set_option linter.unusedVariables false
set_option linter.unusedSimpArgs false

/-- The first instrument from k on, d of them looked at, whose legs are near and far. -/
def spreadFrom (p : PD) (near far : Int) : Nat → Nat → Int × Bool
  | 0, _ => (0, false)
  | d + 1, k => if (legsL p k).1 = near ∧ (legsL p k).2.1 = far then ((k : Int), true) else spreadFrom p near far d (k + 1)
def spreadI (p : PD) (near far : Int) : Int × Bool := spreadFrom p near far (cntL p - p.n1) p.n1
theorem spreadFrom_zero (p : PD) (near far : Int) (k : Nat) : spreadFrom p near far 0 k = (0, false) := rfl
theorem spreadFrom_succ (p : PD) (near far : Int) (d k : Nat) : spreadFrom p near far (d + 1) k = if (legsL p k).1 = near ∧ (legsL p k).2.1 = far then ((k : Int), true) else spreadFrom p near far d (k + 1) := rfl
theorem cntL_le (p : PD) : cntL p ≤ 21 := by
  unfold cntL
  by_cases h : chk p = 0
  · rw [if_pos h]
    have := chk_zero h
    have cs : p.n1 = 2 ∨ p.n1 = 3 ∨ p.n1 = 4 ∨ p.n1 = 5 ∨ p.n1 = 6 := by omega
    rcases cs with h | h | h | h | h <;> rw [h] <;> decide
  · rw [if_neg h]; omega

set_option maxRecDepth 100000 in
set_option maxHeartbeats 1600000 in
theorem RefSpreads_any (p : PD) (near far : Int) (w : World) (h : Hid (p.Ok w)) (hn : I64 near) (hf : I64 far) :
    Calls Try.prog 28 #[p.val, .int .i64 near, .int .i64 far] w fun e w' => e = .returned (.tuple #[.int .i64 (spreadI p near far).1, .bool (spreadI p near far).2]) ∧ Below w.heap.size w w' := by
  obtain ⟨c0, h1⟩ : ∃ c, cntL p = c := ⟨_, rfl⟩
  obtain ⟨⟨x, y⟩, g0⟩ : ∃ c, spreadI p near far = c := ⟨_, rfl⟩
  rw [g0]
  obtain ⟨F, hF⟩ : ∃ F, spreadFrom p near far = F := ⟨_, rfl⟩
  have hF0 : ∀ k, F 0 k = (0, false) := fun k => by rw [← hF]; rfl
  have hFs : ∀ d k, F (d + 1) k = if (legsL p k).1 = near ∧ (legsL p k).2.1 = far then ((k : Int), true) else F d (k + 1) := fun d k => by rw [← hF]; rfl
  have g1 : F (c0 - p.n1) p.n1 = (x, y) := by rw [← g0, ← hF, ← h1]; rfl
  obtain ⟨L, hL⟩ : ∃ L, (fun k : Nat => legsL p k) = L := ⟨_, rfl⟩
  have hLk : ∀ k : Nat, legsL p k = L k := fun k => by rw [← hL]
  simp only [hLk] at hFs
  replace g1 := Lib.hid g1
  replace hF0 := Lib.hid hF0
  replace hFs := Lib.hid hFs
  have hc0 : c0 ≤ 21 := by rw [← h1]; exact cntL_le p
  have HN : Hid (∀ W, Below w.heap.size w W → Calls Try.prog 31 #[p.val] W fun e w' => e = .returned (.int .i64 c0) ∧ Below W.heap.size W w') := Lib.hid (fun W b => by rw [← h1]; exact RefCount_any p W (Lib.hid (h.out.below b)))
  have HL : Hid (∀ (k : Nat) W, k ≤ 1000 → Below w.heap.size w W → Calls Try.prog 27 #[p.val, .int .i64 k] W fun e w' => e = .returned (.tuple #[.int .i64 (L k).1, .int .i64 (L k).2.1, .bool (L k).2.2]) ∧ Below W.heap.size W w') := Lib.hid (fun k W hk b => by
    have := RefLegs_any p k W (Lib.hid (h.out.below b)) ⟨by omega, by omega⟩
    rw [hLk] at this
    exact this)
  obtain ⟨hn1, hn2⟩ := hn
  obtain ⟨hf1, hf2⟩ := hf
  have l1 := h.out.l1
  have m1 := h.out.m1
  clear h1 g0 hF hL hLk h
  obtain ⟨code, A1, n1, c1, tick, low, high, wide, rule, top, least, part, A2, n2, c2, Q, R⟩ := p
  simp only at g1 l1 m1
  show Calls Try.prog 28 #[.agg #[.string (str code), .slice A1 n1 c1, .int .i64 tick, .int .i64 low, .int .i64 high, .int .i64 wide, .int .i64 rule, .int .i64 top, .int .i64 least, .int .i64 part, .slice A2 n2 c2], .int .i64 near, .int .i64 far] w _
  replace HN : Hid (∀ W, Below w.heap.size w W → Calls Try.prog 31 #[.agg #[.string (str code), .slice A1 n1 c1, .int .i64 tick, .int .i64 low, .int .i64 high, .int .i64 wide, .int .i64 rule, .int .i64 top, .int .i64 least, .int .i64 part, .slice A2 n2 c2]] W fun e w' => e = .returned (.int .i64 c0) ∧ Below W.heap.size W w') := HN
  replace HL : Hid (∀ (k : Nat) W, k ≤ 1000 → Below w.heap.size w W → Calls Try.prog 27 #[.agg #[.string (str code), .slice A1 n1 c1, .int .i64 tick, .int .i64 low, .int .i64 high, .int .i64 wide, .int .i64 rule, .int .i64 top, .int .i64 least, .int .i64 part, .slice A2 n2 c2], .int .i64 k] W fun e w' => e = .returned (.tuple #[.int .i64 (L k).1, .int .i64 (L k).2.1, .bool (L k).2.2]) ∧ Below W.heap.size W w') := HL
  obtain ⟨W0, eW0⟩ : ∃ W0, w.alloc (.cells #[.string (str code), .slice A1 n1 c1, .int .i64 tick, .int .i64 low, .int .i64 high, .int .i64 wide, .int .i64 rule, .int .i64 top, .int .i64 least, .int .i64 part, .slice A2 n2 c2] 25) = W0 := ⟨_, rfl⟩
  obtain ⟨pb, epb⟩ : ∃ pb, w.heap.size = pb := ⟨_, rfl⟩
  have hblk : W0.heap[pb]? = some (.cells #[.string (str code), .slice A1 n1 c1, .int .i64 tick, .int .i64 low, .int .i64 high, .int .i64 wide, .int .i64 rule, .int .i64 top, .int .i64 least, .int .i64 part, .slice A2 n2 c2] 25 (0, 0)) := by
    rw [← eW0, ← epb]; exact heap_alloc_new w _
  have hB0 : Below w.heap.size w W0 := by rw [← eW0]; exact (Below.refl _ w).alloc (Nat.le_refl _) _
  have hpb : pb < W0.heap.size := (Array.getElem?_eq_some_iff.1 hblk).1
  have kk : ∀ W : World, W.heap[pb]? = some (.cells #[.string (str code), .slice A1 n1 c1, .int .i64 tick, .int .i64 low, .int .i64 high, .int .i64 wide, .int .i64 rule, .int .i64 top, .int .i64 least, .int .i64 part, .slice A2 n2 c2] 25 (0, 0)) → W.cell? ⟨pb, 0, none⟩ = some (.string (str code)) ∧ W.cell? ⟨pb, 1, none⟩ = some (.slice A1 n1 c1) ∧ W.cell? ⟨pb, 2, none⟩ = some (.int .i64 tick) ∧ W.cell? ⟨pb, 3, none⟩ = some (.int .i64 low) ∧ W.cell? ⟨pb, 4, none⟩ = some (.int .i64 high) ∧ W.cell? ⟨pb, 5, none⟩ = some (.int .i64 wide) ∧ W.cell? ⟨pb, 6, none⟩ = some (.int .i64 rule) ∧ W.cell? ⟨pb, 7, none⟩ = some (.int .i64 top) ∧ W.cell? ⟨pb, 8, none⟩ = some (.int .i64 least) ∧ W.cell? ⟨pb, 9, none⟩ = some (.int .i64 part) ∧ W.cell? ⟨pb, 10, none⟩ = some (.slice A2 n2 c2) := by
    intro W hb
    refine ⟨?_, ?_, ?_, ?_, ?_, ?_, ?_, ?_, ?_, ?_, ?_⟩ <;> (rw [Lib.cell_of_heap hb]; rfl)
  replace kk := Lib.hid kk
  go_enter Try.func28, Try.ntmps28
  replace eW0 := Lib.hid eW0
  have ka : (w.alloc (.cells #[.string (str code), .slice A1 n1 c1, .int .i64 tick, .int .i64 low, .int .i64 high, .int .i64 wide, .int .i64 rule, .int .i64 top, .int .i64 least, .int .i64 part, .slice A2 n2 c2] 25)).cell? ⟨w.heap.size, 1, none⟩ = some (.slice A1 n1 c1) := by
    rw [eW0.out, epb]; exact (kk.out W0 hblk).2.1
  replace epb := Lib.hid epb
  go_wp2_with fail
  rw [eW0.out]
  rw [epb.out]
  clear eW0 ka
  go_loopw [8] (fun k wr => ∃ a d : Nat, k = .int .i64 a ∧ n1 ≤ a ∧ (a + d = c0 ∨ (c0 ≤ a ∧ d = 0)) ∧ Hid (F d a = (x, y)) ∧ Hid (Below w.heap.size w wr) ∧ Hid (wr.heap[pb]? = some (.cells #[.string (str code), .slice A1 n1 c1, .int .i64 tick, .int .i64 low, .int .i64 high, .int .i64 wide, .int .i64 rule, .int .i64 top, .int .i64 least, .int .i64 part, .slice A2 n2 c2] 25 (0, 0)))) (fun k _ => c0 - (intOf k).toNat)
  case atStart =>
    exact ⟨n1, c0 - n1, rfl, by omega, by omega, g1, Lib.hid hB0, Lib.hid hblk⟩
  case round =>
    clear hblk hB0 hpb g1
    obtain ⟨a, d, rfl, ha, hd, rc, HB, hb⟩ := hrel
    obtain ⟨k0, k1, k2, k3, k4, k5, k6, k7, k8, k9, k10⟩ := kk.out _ hb.out
    have hB := HB.out
    have hpb := (Array.getElem?_eq_some_iff.1 hb.out).1
    have hd1 : a < c0 ∨ c0 ≤ a := by omega
    by_cases q1 : a < c0
    · obtain ⟨d, rfl⟩ : ∃ e, d = e + 1 := ⟨d - 1, by omega⟩
      have f1 : decide ((a : Int) < (c0 : Int)) = true := decide_eq_true (by omega)
      have rc2 := rc.out
      rw [hFs.out] at rc2
      replace rc := Lib.hid rc2
      clear rc2
      go_wp2_with fail
      refine (HN.out _ hB).mono ?_
      rintro e w2 ⟨rfl, b2⟩
      have hb2 : w2.heap[pb]? = _ := (b2.block pb hpb).trans hb.out
      have hB2 := hB.trans (b2.mono hB.size)
      have hpb2 : pb < w2.heap.size := (Array.getElem?_eq_some_iff.1 hb2).1
      clear k0 k1 k2 k3 k4 k5 k6 k7 k8 k9 k10
      obtain ⟨k0, k1, k2, k3, k4, k5, k6, k7, k8, k9, k10⟩ := kk.out w2 hb2
      clear hB hpb b2 HB hb
      go_wp2_with fail
      refine (HL.out a w2 (by omega) hB2).mono ?_
      rintro e w3 ⟨rfl, b3⟩
      have hb3 := Lib.hid (show w3.heap[pb]? = _ from (b3.block pb hpb2).trans hb2)
      have hB3 := Lib.hid (hB2.trans (b3.mono hB2.size))
      obtain ⟨⟨i, j, z⟩, hL⟩ : ∃ l, L a = l := ⟨_, rfl⟩
      rw [hL] at rc ⊢
      clear k0 k1 k2 k3 k4 k5 k6 k7 k8 k9 k10 hB2 hpb2 b3 hb2 hL
      simp only at rc
      by_cases q2 : i = near
      · have f2 : (i == near) = true := by simp; exact q2
        by_cases q3 : j = far
        · have f3 : (j == far) = true := by simp; exact q3
          have RC := rc.out
          rw [if_pos ⟨q2, q3⟩] at RC
          replace RC := Lib.hid RC
          clear rc q2 q3
          go_wp2_with fail
          go_ret2
          exact ⟨by injection RC.out with a b; rw [← a, ← b]; rfl, hB3.out⟩
        · have f3 : (j == far) = false := by simp; exact q3
          have RC := rc.out
          rw [if_neg (fun h => q3 h.2)] at RC
          replace RC := Lib.hid RC
          clear rc q2 q3
          go_wp2_with fail
          go_roundw
          case rel => exact ⟨a + 1, d, by go_num, by omega, by omega, RC, hB3, hb3⟩
          case measure => simp [intOf]; omega
      · have f2 : (i == near) = false := by simp; exact q2
        have RC := rc.out
        rw [if_neg (fun h => q2 h.1)] at RC
        replace RC := Lib.hid RC
        clear rc q2
        go_wp2_with fail
        go_roundw
        case rel => exact ⟨a + 1, d, by go_num, by omega, by omega, RC, hB3, hb3⟩
        case measure => simp [intOf]; omega
    · have f1 : decide ((a : Int) < (c0 : Int)) = false := decide_eq_false (by omega)
      obtain rfl : d = 0 := by omega
      have RC := rc.out
      rw [hF0.out] at RC
      replace RC := Lib.hid RC
      clear rc
      go_wp2_with fail
      refine (HN.out _ hB).mono ?_
      rintro e w2 ⟨rfl, b2⟩
      have hB2 := Lib.hid (hB.trans (b2.mono hB.size))
      clear k0 k1 k2 k3 k4 k5 k6 k7 k8 k9 k10 hB hpb b2 HB hb
      go_wp2_with fail
      go_ret2
      exact ⟨by injection RC.out with a b; rw [← a, ← b]; rfl, hB2.out⟩
end Go.Proofs.Ytbigmbpclikenaa
