/-
  Contract: Find, of the document's own answer.
-/
import Derived.Test.YtbigmbpclikenaaRefName
namespace Go.Proofs.Ytbigmbpclikenaa
open Go.RowKit
set_option linter.unusedVariables false
set_option linter.unusedSimpArgs false

/-- The first instrument from k on, d of them looked at, whose name is l. -/
def findFrom (p : PD) (l : List UInt8) : Nat → Nat → Int × Bool
  | 0, _ => (0, false)
  | d + 1, k => if nameL p k = l then ((k : Int), true) else findFrom p l d (k + 1)
def findI (p : PD) (l : List UInt8) : Int × Bool := findFrom p l (cntL p) 0
theorem findFrom_zero (p : PD) (l : List UInt8) (k : Nat) : findFrom p l 0 k = (0, false) := rfl
theorem findFrom_succ (p : PD) (l : List UInt8) (d k : Nat) : findFrom p l (d + 1) k = if nameL p k = l then ((k : Int), true) else findFrom p l d (k + 1) := rfl
theorem str_other {a b : List UInt8} (h : a ≠ b) : ((str a).toList == (str b).toList) = false := by
  rw [ByteArray.toList_eq, ByteArray.toList_eq]
  exact beq_eq_false_iff_ne.2 h
theorem str_same {a b : List UInt8} (h : a = b) : ((str a).toList == (str b).toList) = true := by rw [h]; exact beq_self_eq_true _

set_option maxRecDepth 100000 in
set_option maxHeartbeats 1600000 in
theorem RefFind_any (p : PD) (l : List UInt8) (w : World) (h : Hid (p.Ok w)) :
    Calls Try.prog 29 #[p.val, .string (str l)] w fun e w' => e = .returned (.tuple #[.int .i64 (findI p l).1, .bool (findI p l).2]) ∧ Below w.heap.size w w' := by
  obtain ⟨c0, h1⟩ : ∃ c, cntL p = c := ⟨_, rfl⟩
  obtain ⟨⟨x, y⟩, g0⟩ : ∃ c, findI p l = c := ⟨_, rfl⟩
  rw [g0]
  obtain ⟨F, hF⟩ : ∃ F, findFrom p l = F := ⟨_, rfl⟩
  have hF0 : ∀ k, F 0 k = (0, false) := fun k => by rw [← hF]; rfl
  have hFs : ∀ d k, F (d + 1) k = if nameL p k = l then ((k : Int), true) else F d (k + 1) := fun d k => by rw [← hF]; rfl
  have g1 : F c0 0 = (x, y) := by rw [← g0, ← hF, ← h1]; rfl
  obtain ⟨L, hL⟩ : ∃ L, (fun k : Nat => nameL p k) = L := ⟨_, rfl⟩
  have hLk : ∀ k : Nat, nameL p k = L k := fun k => by rw [← hL]
  simp only [hLk] at hFs
  replace g1 := Lib.hid g1
  replace hF0 := Lib.hid hF0
  replace hFs := Lib.hid hFs
  have hc0 : c0 ≤ 21 := by rw [← h1]; exact cntL_le p
  have HN : Hid (∀ W, Below w.heap.size w W → Calls Try.prog 31 #[p.val] W fun e w' => e = .returned (.int .i64 c0) ∧ Below W.heap.size W w') := Lib.hid (fun W b => by rw [← h1]; exact RefCount_any p W (Lib.hid (h.out.below b)))
  have HL : Hid (∀ (k : Nat) W, k ≤ 1000 → Below w.heap.size w W → Calls Try.prog 20 #[p.val, .int .i64 k] W fun e w' => e = .returned (.string (str (L k))) ∧ Below W.heap.size W w') := Lib.hid (fun k W hk b => by
    have := RefName_any p k W (Lib.hid (h.out.below b)) ⟨by omega, by omega⟩
    rw [hLk] at this
    exact this)
  have l1 := h.out.l1
  have m1 := h.out.m1
  clear h1 g0 hF hL hLk h
  obtain ⟨code, A1, n1, c1, tick, low, high, wide, rule, top, least, part, A2, n2, c2, Q, R⟩ := p
  simp only at l1 m1
  show Calls Try.prog 29 #[.agg #[.string (str code), .slice A1 n1 c1, .int .i64 tick, .int .i64 low, .int .i64 high, .int .i64 wide, .int .i64 rule, .int .i64 top, .int .i64 least, .int .i64 part, .slice A2 n2 c2], .string (str l)] w _
  replace HN : Hid (∀ W, Below w.heap.size w W → Calls Try.prog 31 #[.agg #[.string (str code), .slice A1 n1 c1, .int .i64 tick, .int .i64 low, .int .i64 high, .int .i64 wide, .int .i64 rule, .int .i64 top, .int .i64 least, .int .i64 part, .slice A2 n2 c2]] W fun e w' => e = .returned (.int .i64 c0) ∧ Below W.heap.size W w') := HN
  replace HL : Hid (∀ (k : Nat) W, k ≤ 1000 → Below w.heap.size w W → Calls Try.prog 20 #[.agg #[.string (str code), .slice A1 n1 c1, .int .i64 tick, .int .i64 low, .int .i64 high, .int .i64 wide, .int .i64 rule, .int .i64 top, .int .i64 least, .int .i64 part, .slice A2 n2 c2], .int .i64 k] W fun e w' => e = .returned (.string (str (L k))) ∧ Below W.heap.size W w') := HL
  obtain ⟨W0, eW0⟩ : ∃ W0, w.alloc (.cells #[.string (str code), .slice A1 n1 c1, .int .i64 tick, .int .i64 low, .int .i64 high, .int .i64 wide, .int .i64 rule, .int .i64 top, .int .i64 least, .int .i64 part, .slice A2 n2 c2] 25) = W0 := ⟨_, rfl⟩
  obtain ⟨pb, epb⟩ : ∃ pb, w.heap.size = pb := ⟨_, rfl⟩
  have hblk : W0.heap[pb]? = some (.cells #[.string (str code), .slice A1 n1 c1, .int .i64 tick, .int .i64 low, .int .i64 high, .int .i64 wide, .int .i64 rule, .int .i64 top, .int .i64 least, .int .i64 part, .slice A2 n2 c2] 25 (0, 0)) := by
    rw [← eW0, ← epb]; exact heap_alloc_new w _
  have hB0 : Below w.heap.size w W0 := by rw [← eW0]; exact (Below.refl _ w).alloc (Nat.le_refl _) _
  have hpb : pb < W0.heap.size := (Array.getElem?_eq_some_iff.1 hblk).1
  have kk : ∀ W : World, W.heap[pb]? = some (.cells #[.string (str code), .slice A1 n1 c1, .int .i64 tick, .int .i64 low, .int .i64 high, .int .i64 wide, .int .i64 rule, .int .i64 top, .int .i64 least, .int .i64 part, .slice A2 n2 c2] 25 (0, 0)) → W.cell? ⟨pb, 0, none⟩ = some (.string (str code)) ∧ W.cell? ⟨pb, 1, none⟩ = some (.slice A1 n1 c1) ∧ W.cell? ⟨pb, 2, none⟩ = some (.int .i64 tick) ∧ W.cell? ⟨pb, 3, none⟩ = some (.int .i64 low) ∧ W.cell? ⟨pb, 4, none⟩ = some (.int .i64 high) ∧ W.cell? ⟨pb, 5, none⟩ = some (.int .i64 wide) ∧ W.cell? ⟨pb, 6, none⟩ = some (.int .i64 rule) ∧ W.cell? ⟨pb, 7, none⟩ = some (.int .i64 top) ∧ W.cell? ⟨pb, 8, none⟩ = some (.int .i64 least) ∧ W.cell? ⟨pb, 9, none⟩ = some (.int .i64 part) ∧ W.cell? ⟨pb, 10, none⟩ = some (.slice A2 n2 c2) := by
    intro W hb
    refine ⟨?_, ?_, ?_, ?_, ?_, ?_, ?_, ?_, ?_, ?_, ?_⟩ <;> (rw [Lib.cell_of_heap hb]; rfl)
  replace kk := Lib.hid kk
  go_enter Try.func29, Try.ntmps29
  replace eW0 := Lib.hid eW0
  have ka : (w.alloc (.cells #[.string (str code), .slice A1 n1 c1, .int .i64 tick, .int .i64 low, .int .i64 high, .int .i64 wide, .int .i64 rule, .int .i64 top, .int .i64 least, .int .i64 part, .slice A2 n2 c2] 25)).cell? ⟨w.heap.size, 1, none⟩ = some (.slice A1 n1 c1) := by
    rw [eW0.out, epb]; exact (kk.out W0 hblk).2.1
  replace epb := Lib.hid epb
  go_wp2_with fail
  rw [eW0.out]
  rw [epb.out]
  clear eW0 ka
  go_loopw [6] (fun k wr => ∃ a d : Nat, k = .int .i64 a ∧ a + d = c0 ∧ Hid (F d a = (x, y)) ∧ Hid (Below w.heap.size w wr) ∧ Hid (wr.heap[pb]? = some (.cells #[.string (str code), .slice A1 n1 c1, .int .i64 tick, .int .i64 low, .int .i64 high, .int .i64 wide, .int .i64 rule, .int .i64 top, .int .i64 least, .int .i64 part, .slice A2 n2 c2] 25 (0, 0)))) (fun k _ => c0 - (intOf k).toNat)
  case atStart =>
    exact ⟨0, c0, rfl, by omega, g1, Lib.hid hB0, Lib.hid hblk⟩
  case round =>
    clear hblk hB0 hpb g1
    obtain ⟨a, d, rfl, hd, rc, HB, hb⟩ := hrel
    obtain ⟨k0, k1, k2, k3, k4, k5, k6, k7, k8, k9, k10⟩ := kk.out _ hb.out
    have hB := HB.out
    have hpb := (Array.getElem?_eq_some_iff.1 hb.out).1
    have hd1 : a < c0 ∨ c0 ≤ a := by omega
    by_cases q1 : a < c0
    · obtain ⟨d, rfl⟩ : ∃ e, d = e + 1 := ⟨d - 1, by omega⟩
      have f1 : decide ((a : Int) < (c0 : Int)) = true := decide_eq_true (by omega)
      have rc2 := rc.out
      rw [hFs.out] at rc2
      replace rc := Lib.hid rc2
      clear rc2
      go_wp2_with fail
      refine (HN.out _ hB).mono ?_
      rintro e w2 ⟨rfl, b2⟩
      have hb2 : w2.heap[pb]? = _ := (b2.block pb hpb).trans hb.out
      have hB2 := hB.trans (b2.mono hB.size)
      have hpb2 : pb < w2.heap.size := (Array.getElem?_eq_some_iff.1 hb2).1
      clear k0 k1 k2 k3 k4 k5 k6 k7 k8 k9 k10
      obtain ⟨k0, k1, k2, k3, k4, k5, k6, k7, k8, k9, k10⟩ := kk.out w2 hb2
      clear hB hpb b2 HB hb
      go_wp2_with fail
      refine (HL.out a w2 (by omega) hB2).mono ?_
      rintro e w3 ⟨rfl, b3⟩
      have hb3 := Lib.hid (show w3.heap[pb]? = _ from (b3.block pb hpb2).trans hb2)
      have hB3 := Lib.hid (hB2.trans (b3.mono hB2.size))
      obtain ⟨N, hL⟩ : ∃ l, L a = l := ⟨_, rfl⟩
      rw [hL] at rc ⊢
      clear k0 k1 k2 k3 k4 k5 k6 k7 k8 k9 k10 hB2 hpb2 b3 hb2 hL
      by_cases q2 : N = l
      · have f2 := str_same q2
        have RC := rc.out
        rw [if_pos q2] at RC
        replace RC := Lib.hid RC
        clear rc q2
        go_wp2_with fail
        go_ret2
        exact ⟨by injection RC.out with a b; rw [← a, ← b]; rfl, hB3.out⟩
      · have f2 := str_other q2
        have RC := rc.out
        rw [if_neg q2] at RC
        replace RC := Lib.hid RC
        clear rc q2
        go_wp2_with fail
        go_roundw
        case rel => exact ⟨a + 1, d, by go_num, by omega, RC, hB3, hb3⟩
        case measure => simp [intOf]; omega
    · have f1 : decide ((a : Int) < (c0 : Int)) = false := decide_eq_false (by omega)
      obtain rfl : d = 0 := by omega
      have RC := rc.out
      rw [hF0.out] at RC
      replace RC := Lib.hid RC
      clear rc
      go_wp2_with fail
      refine (HN.out _ hB).mono ?_
      rintro e w2 ⟨rfl, b2⟩
      have hB2 := Lib.hid (hB.trans (b2.mono hB.size))
      clear k0 k1 k2 k3 k4 k5 k6 k7 k8 k9 k10 hB hpb b2 HB hb
      go_wp2_with fail
      go_ret2
      exact ⟨by injection RC.out with a b; rw [← a, ← b]; rfl, hB2.out⟩
end Go.Proofs.Ytbigmbpclikenaa
