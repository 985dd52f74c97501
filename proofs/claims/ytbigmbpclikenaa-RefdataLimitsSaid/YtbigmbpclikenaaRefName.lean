/-
  Contract: Name, of the document's own answer.
-/
import Derived.Test.YtbigmbpclikenaaRefSpreads
import Derived.Test.YtbigmbpclikenaaSymCode3
import Derived.Deep.RegionHeld3
namespace Go.Proofs.Ytbigmbpclikenaa
open Go.RowKit
set_option linter.unusedVariables false
set_option linter.unusedSimpArgs false

theorem pairFrom_range : ∀ n, n < 7 → ∀ r, r < 15 → r < n * (n - 1) / 2 → 0 ≤ (pairFrom n n r).1 ∧ (pairFrom n n r).1 < (pairFrom n n r).2.1 ∧ (pairFrom n n r).2.1 < n ∧ (pairFrom n n r).2.2 = true := by decide
/-- The legs of an instrument. -/
theorem legs_range {p : PD} {inst : Int} (h : 0 ≤ inst) (h2 : inst < cntL p) : chk p = 0 ∧ ∃ i j : Nat, legsL p inst = ((i : Int), (j : Int), decide ((p.n1 : Int) ≤ inst)) ∧ i < p.n1 ∧ j < p.n1 := by
  unfold cntL at h2
  by_cases h0 : chk p = 0
  · rw [if_pos h0] at h2
    refine ⟨h0, ?_⟩
    unfold legsL
    have hn := chk_zero h0
    rw [if_neg (by omega)]
    by_cases q : inst < p.n1
    · rw [if_pos q, decide_eq_false (by omega)]
      exact ⟨inst.toNat, inst.toNat, by rw [Int.toNat_of_nonneg h], by omega, by omega⟩
    · rw [if_neg q, decide_eq_true (by omega)]
      have hr : (inst - p.n1).toNat < p.n1 * (p.n1 - 1) / 2 := by omega
      have hb : p.n1 * (p.n1 - 1) / 2 ≤ 15 := by
        have cs : p.n1 = 2 ∨ p.n1 = 3 ∨ p.n1 = 4 ∨ p.n1 = 5 ∨ p.n1 = 6 := by omega
        rcases cs with h | h | h | h | h <;> rw [h] <;> decide
      obtain ⟨g1, g2, g3, g4⟩ := pairFrom_range p.n1 (by omega) (inst - p.n1).toNat (by omega) hr
      obtain ⟨⟨x, y, z⟩, e⟩ : ∃ l, pairFrom p.n1 p.n1 (inst - p.n1).toNat = l := ⟨_, rfl⟩
      rw [e] at g1 g2 g3 g4 ⊢
      simp only at g1 g2 g3 g4
      subst g4
      exact ⟨x.toNat, y.toNat, by rw [Int.toNat_of_nonneg g1, Int.toNat_of_nonneg (by omega)], by omega, by omega⟩
  · rw [if_neg h0] at h2; omega
def nameL (p : PD) (inst : Int) : List UInt8 :=
  if inst < 0 ∨ (cntL p : Int) ≤ inst then [] else
    if (legsL p inst).2.2 then spreadL p.code (p.Q (legsL p inst).1.toNat) (p.Q (legsL p inst).2.1.toNat) else codeL p.code (p.Q (legsL p inst).1.toNat)

set_option maxRecDepth 100000 in
set_option maxHeartbeats 1600000 in
theorem RefName_any (p : PD) (inst : Int) (w : World) (h : Hid (p.Ok w)) (hi : I64 inst) :
    Calls Try.prog 20 #[p.val, .int .i64 inst] w fun e w' => e = .returned (.string (str (nameL p inst))) ∧ Below w.heap.size w w' := by
  obtain ⟨c0, h1⟩ : ∃ c, cntL p = c := ⟨_, rfl⟩
  obtain ⟨⟨a, b, z⟩, h2⟩ : ∃ c, legsL p inst = c := ⟨_, rfl⟩
  obtain ⟨v, g0⟩ : ∃ c, nameL p inst = c := ⟨_, rfl⟩
  have g1 := g0
  unfold nameL at g1
  rw [h1, h2] at g1
  simp only at g1
  replace g1 := Lib.hid g1
  rw [g0]
  have hr : 0 ≤ inst → inst < c0 → ∃ i j : Nat, a = i ∧ b = j ∧ i < p.n1 ∧ j < p.n1 := fun k1 k2 => by
    obtain ⟨-, i, j, e, k3, k4⟩ := legs_range k1 (h1 ▸ k2)
    rw [h2] at e
    injection e with e1 e2
    injection e2 with e2 e3
    exact ⟨i, j, e1, e2, k3, k4⟩
  replace hr := Lib.hid hr
  have HN : Hid (∀ W, Below w.heap.size w W → Calls Try.prog 31 #[p.val] W fun e w' => e = .returned (.int .i64 c0) ∧ Below W.heap.size W w') := Lib.hid (fun W b => by rw [← h1]; exact RefCount_any p W (Lib.hid (h.out.below b)))
  have HL : Hid (∀ W, Below w.heap.size w W → Calls Try.prog 27 #[p.val, .int .i64 inst] W fun e w' => e = .returned (.tuple #[.int .i64 a, .int .i64 b, .bool z]) ∧ Below W.heap.size W w') := Lib.hid (fun W b => by
    have := RefLegs_any p inst W (Lib.hid (h.out.below b)) hi
    rw [h2] at this
    exact this)
  obtain ⟨hi1, hi2⟩ := hi
  have l1 := h.out.l1
  have m1 := h.out.m1
  have hco := h.out.code
  have HO : Hid (∀ W, Below w.heap.size w W → Nums W p.A1 p.n1 p.Q) := Lib.hid (fun W b => h.out.months.below b)
  clear h1 h2 g0 h
  obtain ⟨code, A1, n1, c1, tick, low, high, wide, rule, top, least, part, A2, n2, c2, Q, R⟩ := p
  simp only at g1 hr l1 m1 hco HO
  show Calls Try.prog 20 #[.agg #[.string (str code), .slice A1 n1 c1, .int .i64 tick, .int .i64 low, .int .i64 high, .int .i64 wide, .int .i64 rule, .int .i64 top, .int .i64 least, .int .i64 part, .slice A2 n2 c2], .int .i64 inst] w _
  replace HN : Hid (∀ W, Below w.heap.size w W → Calls Try.prog 31 #[.agg #[.string (str code), .slice A1 n1 c1, .int .i64 tick, .int .i64 low, .int .i64 high, .int .i64 wide, .int .i64 rule, .int .i64 top, .int .i64 least, .int .i64 part, .slice A2 n2 c2]] W fun e w' => e = .returned (.int .i64 c0) ∧ Below W.heap.size W w') := HN
  replace HL : Hid (∀ W, Below w.heap.size w W → Calls Try.prog 27 #[.agg #[.string (str code), .slice A1 n1 c1, .int .i64 tick, .int .i64 low, .int .i64 high, .int .i64 wide, .int .i64 rule, .int .i64 top, .int .i64 least, .int .i64 part, .slice A2 n2 c2], .int .i64 inst] W fun e w' => e = .returned (.tuple #[.int .i64 a, .int .i64 b, .bool z]) ∧ Below W.heap.size W w') := HL
  obtain ⟨W0, eW0⟩ : ∃ W0, w.alloc (.cells #[.string (str code), .slice A1 n1 c1, .int .i64 tick, .int .i64 low, .int .i64 high, .int .i64 wide, .int .i64 rule, .int .i64 top, .int .i64 least, .int .i64 part, .slice A2 n2 c2] 25) = W0 := ⟨_, rfl⟩
  obtain ⟨pb, epb⟩ : ∃ pb, w.heap.size = pb := ⟨_, rfl⟩
  have hblk : W0.heap[pb]? = some (.cells #[.string (str code), .slice A1 n1 c1, .int .i64 tick, .int .i64 low, .int .i64 high, .int .i64 wide, .int .i64 rule, .int .i64 top, .int .i64 least, .int .i64 part, .slice A2 n2 c2] 25 (0, 0)) := by
    rw [← eW0, ← epb]; exact heap_alloc_new w _
  have hB0 : Below w.heap.size w W0 := by rw [← eW0]; exact (Below.refl _ w).alloc (Nat.le_refl _) _
  have hpb : pb < W0.heap.size := (Array.getElem?_eq_some_iff.1 hblk).1
  have HB0 := Lib.hid hB0
  have kk : ∀ W : World, W.heap[pb]? = some (.cells #[.string (str code), .slice A1 n1 c1, .int .i64 tick, .int .i64 low, .int .i64 high, .int .i64 wide, .int .i64 rule, .int .i64 top, .int .i64 least, .int .i64 part, .slice A2 n2 c2] 25 (0, 0)) → W.cell? ⟨pb, 0, none⟩ = some (.string (str code)) ∧ W.cell? ⟨pb, 1, none⟩ = some (.slice A1 n1 c1) ∧ W.cell? ⟨pb, 2, none⟩ = some (.int .i64 tick) ∧ W.cell? ⟨pb, 3, none⟩ = some (.int .i64 low) ∧ W.cell? ⟨pb, 4, none⟩ = some (.int .i64 high) ∧ W.cell? ⟨pb, 5, none⟩ = some (.int .i64 wide) ∧ W.cell? ⟨pb, 6, none⟩ = some (.int .i64 rule) ∧ W.cell? ⟨pb, 7, none⟩ = some (.int .i64 top) ∧ W.cell? ⟨pb, 8, none⟩ = some (.int .i64 least) ∧ W.cell? ⟨pb, 9, none⟩ = some (.int .i64 part) ∧ W.cell? ⟨pb, 10, none⟩ = some (.slice A2 n2 c2) := by
    intro W hb
    refine ⟨?_, ?_, ?_, ?_, ?_, ?_, ?_, ?_, ?_, ?_, ?_⟩ <;> (rw [Lib.cell_of_heap hb]; rfl)
  replace kk := Lib.hid kk
  replace eW0 := Lib.hid eW0
  replace epb := Lib.hid epb
  go_enter Try.func20, Try.ntmps20
  by_cases q1 : inst < 0
  · have f1 : decide (inst < 0) = true := decide_eq_true q1
    have RC := g1.out
    rw [if_pos (.inl q1)] at RC
    replace RC := Lib.hid RC.symm
    clear g1 q1
    go_wp2_with fail
    rw [eW0.out]
    go_ret
    exact ⟨by rw [RC.out]; rfl, HB0.out⟩
  · have f1 : decide (inst < 0) = false := decide_eq_false q1
    go_wp2_with fail
    rw [eW0.out]
    rw [epb.out]
    clear eW0
    refine (HN.out W0 hB0).mono ?_
    rintro e w2 ⟨rfl, b2⟩
    have hblk2 : w2.heap[pb]? = _ := (b2.block pb hpb).trans hblk
    have hB2 := hB0.trans (b2.mono hB0.size)
    have HB2 := Lib.hid hB2
    obtain ⟨k0, k1, k2, k3, k4, k5, k6, k7, k8, k9, k10⟩ := kk.out w2 hblk2
    have hpb2 : pb < w2.heap.size := (Array.getElem?_eq_some_iff.1 hblk2).1
    clear hblk hpb hB0 b2
    by_cases q2 : (c0 : Int) ≤ inst
    · have f2 : decide ((c0 : Int) ≤ inst) = true := decide_eq_true q2
      have RC := g1.out
      rw [if_pos (.inr q2)] at RC
      replace RC := Lib.hid RC.symm
      clear g1 q1 q2
      go_wp2_with fail
      go_ret
      exact ⟨by rw [RC.out]; rfl, HB2.out⟩
    · have f2 : decide ((c0 : Int) ≤ inst) = false := decide_eq_false q2
      have RC := g1.out
      rw [if_neg (by omega)] at RC
      obtain ⟨i, j, rfl, rfl, hi, hj⟩ := hr.out (by omega) (by omega)
      simp only [Int.toNat_natCast] at RC
      replace RC := Lib.hid RC.symm
      clear g1 hr
      go_wp2_with fail
      refine (HL.out w2 hB2).mono ?_
      rintro e w3 ⟨rfl, b3⟩
      have hblk3 : w3.heap[pb]? = _ := (b3.block pb hpb2).trans hblk2
      have hB3 := hB2.trans (b3.mono hB2.size)
      have hpb3 : pb < w3.heap.size := (Array.getElem?_eq_some_iff.1 hblk3).1
      clear k0 k1 k2 k3 k4 k5 k6 k7 k8 k9 k10 hblk2 hpb2 hB2 b3 HB2
      obtain ⟨k0, k1, k2, k3, k4, k5, k6, k7, k8, k9, k10⟩ := kk.out w3 hblk3
      obtain ⟨mb, mo, rfl, hc, r1, r2⟩ := HO.out w3 hB3 i hi
      have d1 : (i : Int) < (n1 : Int) := by omega
      obtain ⟨mb2, mo2, em, hc2, r3, r4⟩ := HO.out w3 hB3 j hj
      injection em with em; injection em with em1 em2; subst em1; subst em2
      have d2 : (j : Int) < (n1 : Int) := by omega
      have hz0 : (fun W => W.cell? ⟨pb, 0, none⟩ = some (.string (str code)) ∧ W.cell? ⟨pb, 1, none⟩ = some (.slice (some ⟨mb, mo, none⟩) n1 c1) ∧ W.cell? ⟨mb, mo + i, none⟩ = some (.int .i64 (Q i)) ∧ W.cell? ⟨mb, mo + j, none⟩ = some (.int .i64 (Q j)) ∧ Below w.heap.size w W) w3 := ⟨k0, k1, hc, hc2, hB3⟩
      have hSof : Hid (∀ W W' : World, (fun W => W.cell? ⟨pb, 0, none⟩ = some (.string (str code)) ∧ W.cell? ⟨pb, 1, none⟩ = some (.slice (some ⟨mb, mo, none⟩) n1 c1) ∧ W.cell? ⟨mb, mo + i, none⟩ = some (.int .i64 (Q i)) ∧ W.cell? ⟨mb, mo + j, none⟩ = some (.int .i64 (Q j)) ∧ Below w.heap.size w W) W → Below W.heap.size W W' → (fun W => W.cell? ⟨pb, 0, none⟩ = some (.string (str code)) ∧ W.cell? ⟨pb, 1, none⟩ = some (.slice (some ⟨mb, mo, none⟩) n1 c1) ∧ W.cell? ⟨mb, mo + i, none⟩ = some (.int .i64 (Q i)) ∧ W.cell? ⟨mb, mo + j, none⟩ = some (.int .i64 (Q j)) ∧ Below w.heap.size w W) W') := Lib.hid (fun W W' h b => by
        refine ⟨(b.cell (p := ⟨pb, 0, none⟩) (World.block_lt_of_cell? W _ h.1)).trans h.1, (b.cell (p := ⟨pb, 1, none⟩) (World.block_lt_of_cell? W _ h.2.1)).trans h.2.1, (b.cell (p := ⟨mb, mo + i, none⟩) (World.block_lt_of_cell? W _ h.2.2.1)).trans h.2.2.1, (b.cell (p := ⟨mb, mo + j, none⟩) (World.block_lt_of_cell? W _ h.2.2.2.1)).trans h.2.2.2.1, h.2.2.2.2.trans (b.mono h.2.2.2.2.size)⟩)
      have hz0 := hSof.out _ _ hz0 ((Below.refl _ w3).drew)
      simp only at hz0
      clear kk HN HL HO k0 k1 k2 k3 k4 k5 k6 k7 k8 k9 k10 hc hc2 hB3 hblk3 hpb3 q1 q2 f1 f2
      go_wp2_with fail
      go_region_held3 (fun W => W.cell? ⟨pb, 0, none⟩ = some (.string (str code)) ∧ W.cell? ⟨pb, 1, none⟩ = some (.slice (some ⟨mb, mo, none⟩) n1 c1) ∧ W.cell? ⟨mb, mo + i, none⟩ = some (.int .i64 (Q i)) ∧ W.cell? ⟨mb, mo + j, none⟩ = some (.int .i64 (Q j)) ∧ Below w.heap.size w W) (first | assumption | exact hz0)
        ((go_at_call 43; refine (RefCode_any code (Q i) _ hco).mono ?_; rintro e w4 ⟨rfl, b4⟩; have hz1 := hSof.out _ _ (by assumption) b4))
      have R1 := Lib.hid (show z = false → v = codeL code (Q i) from fun e => by rw [RC.out, e]; rfl)
      have R2 := Lib.hid (show z = true → v = spreadL code (Q i) (Q j) from fun e => by rw [RC.out, e]; rfl)
      clear RC
      cases z
      · have RD := Lib.hid (R1.out rfl)
        clear R1 R2
        go_wp2_with fail
        go_ret
        exact ⟨by rw [RD.out]; rfl, hz1.2.2.2.2⟩
      · have RD := Lib.hid (R2.out rfl)
        clear R1 R2
        have hz5 := hSof.out _ _ hz1 ((Below.refl _ w4).drew)
        go_wp2_with fail
        go_region_held3 (fun W => W.cell? ⟨pb, 0, none⟩ = some (.string (str code)) ∧ W.cell? ⟨pb, 1, none⟩ = some (.slice (some ⟨mb, mo, none⟩) n1 c1) ∧ W.cell? ⟨mb, mo + i, none⟩ = some (.int .i64 (Q i)) ∧ W.cell? ⟨mb, mo + j, none⟩ = some (.int .i64 (Q j)) ∧ Below w.heap.size w W) (first | assumption | exact hz5)
          ((go_at_call 44; refine (RefSpread_any code (Q i) (Q j) _ hco).mono ?_; rintro e w5 ⟨rfl, b5⟩; have hz2 := hSof.out _ _ (by assumption) b5))
        go_wp2_with fail
        go_ret
        exact ⟨by rw [RD.out]; rfl, hz2.2.2.2.2⟩
end Go.Proofs.Ytbigmbpclikenaa
