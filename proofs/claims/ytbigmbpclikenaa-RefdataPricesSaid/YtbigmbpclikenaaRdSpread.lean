/-
  Contract: Spread, of the program.
-/
import Derived.Test.YtbigmbpclikenaaRdOne
import Derived.Test.YtbigmbpclikenaaRefSpreads
namespace Go.Proofs.Ytbigmbpclikenaa
open Go.RowKit
set_option linter.unusedVariables false
set_option linter.unusedSimpArgs false

theorem legs_kind {p : PD} {k : Nat} (h : k < cntL p) : (k < p.n1 → (legsL p k).1 = (legsL p k).2.1) ∧ (p.n1 ≤ k → (legsL p k).1 ≠ (legsL p k).2.1) := by
  have hs := legs_spread (p := p) (inst := k) (by omega) (by omega)
  obtain ⟨-, i, j, e, hi, hj⟩ := legs_range (p := p) (inst := k) (by omega) (by omega)
  rw [e] at hs ⊢
  simp only at hs ⊢
  by_cases c : (i : Int) = (j : Int)
  · refine ⟨fun _ => c, fun g => ?_⟩
    rw [c, decide_eq_true (by omega)] at hs
    simp at hs
  · refine ⟨fun g => ?_, fun _ => c⟩
    rw [decide_eq_false (by omega)] at hs
    simp at hs
    exact absurd (by omega) c
set_option maxRecDepth 100000 in
set_option maxHeartbeats 1600000 in
theorem PSpreads_any (p : PD) (near far : Int) (w : World) (h : Hid (p.Ok w)) (hn : I64 near) (hf : I64 far) :
    Calls Try.prog 23 #[p.val, .int .i64 near, .int .i64 far] w fun e w' => e = .returned (.tuple #[.int .i64 (spreadI p near far).1, .bool (spreadI p near far).2]) ∧ Below w.heap.size w w' := by
  have HC : Hid (∀ W, Below w.heap.size w W → Calls Try.prog 45 #[p.val] W _) := Lib.hid (fun W b => Instruments_any p W (Lib.hid (h.out.below b)))
  obtain ⟨c0, hc0⟩ : ∃ e, cntL p = e := ⟨_, rfl⟩
  obtain ⟨I, hI⟩ : ∃ I, (fun k : Nat => (legsL p k).1) = I := ⟨_, rfl⟩
  obtain ⟨J, hJ⟩ : ∃ J, (fun k : Nat => (legsL p k).2.1) = J := ⟨_, rfl⟩
  have h21 := cntL_le p
  rw [hc0, hI, hJ] at HC
  rw [hc0] at h21
  obtain ⟨⟨x, y⟩, g0⟩ : ∃ c, spreadI p near far = c := ⟨_, rfl⟩
  rw [g0]
  obtain ⟨F, hF⟩ : ∃ F, spreadFrom p near far = F := ⟨_, rfl⟩
  have hF0 : ∀ k, F 0 k = (0, false) := fun k => by rw [← hF]; rfl
  have hFs : ∀ d k, F (d + 1) k = if I k = near ∧ J k = far then ((k : Int), true) else F d (k + 1) := fun d k => by rw [← hF, ← hI, ← hJ]; rfl
  have g1 : F (c0 - p.n1) p.n1 = (x, y) := by rw [← g0, ← hF, ← hc0]; rfl
  have hk : ∀ k, k < c0 → (k < p.n1 → I k = J k) ∧ (p.n1 ≤ k → I k ≠ J k) := fun k g => by rw [← hI, ← hJ]; exact legs_kind (by rw [hc0]; exact g)
  replace g1 := Lib.hid g1
  replace hF0 := Lib.hid hF0
  replace hFs := Lib.hid hFs
  replace hk := Lib.hid hk
  obtain ⟨hn1, hn2⟩ := hn
  obtain ⟨hf1, hf2⟩ := hf
  clear hc0 hI hJ g0 hF
  have l1 := h.out.l1
  have m1 := h.out.m1
  have l2 := h.out.l2
  have m2 := h.out.m2
  have hco := h.out.code
  obtain ⟨ti1, ti2⟩ := h.out.tick
  obtain ⟨lo1, lo2⟩ := h.out.low
  obtain ⟨hg1, hg2⟩ := h.out.high
  obtain ⟨wi1, wi2⟩ := h.out.wide
  obtain ⟨ru1, ru2⟩ := h.out.rule
  obtain ⟨to1, to2⟩ := h.out.top
  obtain ⟨le1, le2⟩ := h.out.least
  obtain ⟨pa1, pa2⟩ := h.out.part
  have HO1 : Hid (∀ W, Below w.heap.size w W → Nums W p.A1 p.n1 p.Q) := Lib.hid (fun W b => h.out.months.below b)
  have HO2 : Hid (∀ W, Below w.heap.size w W → Nums W p.A2 p.n2 p.R) := Lib.hid (fun W b => h.out.settle.below b)
  clear h
  obtain ⟨K, hK⟩ : ∃ K : World → Ending → World → Prop, (fun W e w' => (∃ A c, e = .returned (.slice A c0 c) ∧ c0 ≤ c ∧ c ≤ 21 ∧ Pairs w' A c0 I J) ∧ Below W.heap.size W w') = K := ⟨_, rfl⟩
  have hK2 : ∀ W e w', K W e w' → (∃ A c, e = .returned (.slice A c0 c) ∧ c0 ≤ c ∧ c ≤ 21 ∧ Pairs w' A c0 I J) ∧ Below W.heap.size W w' := fun W e w' g => by
    rw [← hK] at g
    exact g
  replace HC : Hid (∀ W, Below w.heap.size w W → Calls Try.prog 45 #[p.val] W (K W)) := Lib.hid (fun W b => by rw [← hK]; exact HC.out W b)
  replace hK2 := Lib.hid hK2
  clear hK
  obtain ⟨code, A1, n1, c1, tick, low, high, wide, rule, top, least, part, A2, n2, c2, Q, R⟩ := p
  simp only at l1 m1 l2 m2 hco ti1 ti2 lo1 lo2 hg1 hg2 wi1 wi2 ru1 ru2 to1 to2 le1 le2 pa1 pa2 HO1 HO2 g1 hk
  replace HC : Hid (∀ W, Below w.heap.size w W → Calls Try.prog 45 #[.agg #[.string (str code), .slice A1 n1 c1, .int .i64 tick, .int .i64 low, .int .i64 high, .int .i64 wide, .int .i64 rule, .int .i64 top, .int .i64 least, .int .i64 part, .slice A2 n2 c2]] W (K W)) := HC
  show Calls Try.prog 23 #[.agg #[.string (str code), .slice A1 n1 c1, .int .i64 tick, .int .i64 low, .int .i64 high, .int .i64 wide, .int .i64 rule, .int .i64 top, .int .i64 least, .int .i64 part, .slice A2 n2 c2], .int .i64 near, .int .i64 far] w _
  obtain ⟨W0, eW0⟩ : ∃ W0, w.alloc (.cells #[.string (str code), .slice A1 n1 c1, .int .i64 tick, .int .i64 low, .int .i64 high, .int .i64 wide, .int .i64 rule, .int .i64 top, .int .i64 least, .int .i64 part, .slice A2 n2 c2] 25) = W0 := ⟨_, rfl⟩
  obtain ⟨pb, epb⟩ : ∃ pb, w.heap.size = pb := ⟨_, rfl⟩
  have hblk0 : W0.heap[pb]? = some (.cells #[.string (str code), .slice A1 n1 c1, .int .i64 tick, .int .i64 low, .int .i64 high, .int .i64 wide, .int .i64 rule, .int .i64 top, .int .i64 least, .int .i64 part, .slice A2 n2 c2] 25 (0, 0)) := by
    rw [← eW0, ← epb]; exact heap_alloc_new w _
  have hB0 : Below w.heap.size w W0 := by rw [← eW0]; exact (Below.refl _ w).alloc (Nat.le_refl _) _
  have hpb0 : pb < W0.heap.size := (Array.getElem?_eq_some_iff.1 hblk0).1
  have kk : ∀ W : World, W.heap[pb]? = some (.cells #[.string (str code), .slice A1 n1 c1, .int .i64 tick, .int .i64 low, .int .i64 high, .int .i64 wide, .int .i64 rule, .int .i64 top, .int .i64 least, .int .i64 part, .slice A2 n2 c2] 25 (0, 0)) → W.cell? ⟨pb, 0, none⟩ = some (.string (str code)) ∧ W.cell? ⟨pb, 1, none⟩ = some (.slice A1 n1 c1) ∧ W.cell? ⟨pb, 2, none⟩ = some (.int .i64 tick) ∧ W.cell? ⟨pb, 3, none⟩ = some (.int .i64 low) ∧ W.cell? ⟨pb, 4, none⟩ = some (.int .i64 high) ∧ W.cell? ⟨pb, 5, none⟩ = some (.int .i64 wide) ∧ W.cell? ⟨pb, 6, none⟩ = some (.int .i64 rule) ∧ W.cell? ⟨pb, 7, none⟩ = some (.int .i64 top) ∧ W.cell? ⟨pb, 8, none⟩ = some (.int .i64 least) ∧ W.cell? ⟨pb, 9, none⟩ = some (.int .i64 part) ∧ W.cell? ⟨pb, 10, none⟩ = some (.slice A2 n2 c2) := by
    intro W hb
    refine ⟨?_, ?_, ?_, ?_, ?_, ?_, ?_, ?_, ?_, ?_, ?_⟩ <;> (rw [Lib.cell_of_heap hb]; rfl)
  replace kk := Lib.hid kk
  replace eW0 := Lib.hid eW0
  replace epb := Lib.hid epb
  have a0 : (w.alloc (.cells #[.string (str code), .slice A1 n1 c1, .int .i64 tick, .int .i64 low, .int .i64 high, .int .i64 wide, .int .i64 rule, .int .i64 top, .int .i64 least, .int .i64 part, .slice A2 n2 c2] 25)).cell? ⟨w.heap.size, 0, none⟩ = some (.string (str code)) := by
    rw [eW0.out, epb.out]; exact (kk.out W0 hblk0).1
  have a1 : (w.alloc (.cells #[.string (str code), .slice A1 n1 c1, .int .i64 tick, .int .i64 low, .int .i64 high, .int .i64 wide, .int .i64 rule, .int .i64 top, .int .i64 least, .int .i64 part, .slice A2 n2 c2] 25)).cell? ⟨w.heap.size, 1, none⟩ = some (.slice A1 n1 c1) := by
    rw [eW0.out, epb.out]; exact (kk.out W0 hblk0).2.1
  have a2 : (w.alloc (.cells #[.string (str code), .slice A1 n1 c1, .int .i64 tick, .int .i64 low, .int .i64 high, .int .i64 wide, .int .i64 rule, .int .i64 top, .int .i64 least, .int .i64 part, .slice A2 n2 c2] 25)).cell? ⟨w.heap.size, 2, none⟩ = some (.int .i64 tick) := by
    rw [eW0.out, epb.out]; exact (kk.out W0 hblk0).2.2.1
  have a3 : (w.alloc (.cells #[.string (str code), .slice A1 n1 c1, .int .i64 tick, .int .i64 low, .int .i64 high, .int .i64 wide, .int .i64 rule, .int .i64 top, .int .i64 least, .int .i64 part, .slice A2 n2 c2] 25)).cell? ⟨w.heap.size, 3, none⟩ = some (.int .i64 low) := by
    rw [eW0.out, epb.out]; exact (kk.out W0 hblk0).2.2.2.1
  have a4 : (w.alloc (.cells #[.string (str code), .slice A1 n1 c1, .int .i64 tick, .int .i64 low, .int .i64 high, .int .i64 wide, .int .i64 rule, .int .i64 top, .int .i64 least, .int .i64 part, .slice A2 n2 c2] 25)).cell? ⟨w.heap.size, 4, none⟩ = some (.int .i64 high) := by
    rw [eW0.out, epb.out]; exact (kk.out W0 hblk0).2.2.2.2.1
  have a5 : (w.alloc (.cells #[.string (str code), .slice A1 n1 c1, .int .i64 tick, .int .i64 low, .int .i64 high, .int .i64 wide, .int .i64 rule, .int .i64 top, .int .i64 least, .int .i64 part, .slice A2 n2 c2] 25)).cell? ⟨w.heap.size, 5, none⟩ = some (.int .i64 wide) := by
    rw [eW0.out, epb.out]; exact (kk.out W0 hblk0).2.2.2.2.2.1
  have a6 : (w.alloc (.cells #[.string (str code), .slice A1 n1 c1, .int .i64 tick, .int .i64 low, .int .i64 high, .int .i64 wide, .int .i64 rule, .int .i64 top, .int .i64 least, .int .i64 part, .slice A2 n2 c2] 25)).cell? ⟨w.heap.size, 6, none⟩ = some (.int .i64 rule) := by
    rw [eW0.out, epb.out]; exact (kk.out W0 hblk0).2.2.2.2.2.2.1
  have a7 : (w.alloc (.cells #[.string (str code), .slice A1 n1 c1, .int .i64 tick, .int .i64 low, .int .i64 high, .int .i64 wide, .int .i64 rule, .int .i64 top, .int .i64 least, .int .i64 part, .slice A2 n2 c2] 25)).cell? ⟨w.heap.size, 7, none⟩ = some (.int .i64 top) := by
    rw [eW0.out, epb.out]; exact (kk.out W0 hblk0).2.2.2.2.2.2.2.1
  have a8 : (w.alloc (.cells #[.string (str code), .slice A1 n1 c1, .int .i64 tick, .int .i64 low, .int .i64 high, .int .i64 wide, .int .i64 rule, .int .i64 top, .int .i64 least, .int .i64 part, .slice A2 n2 c2] 25)).cell? ⟨w.heap.size, 8, none⟩ = some (.int .i64 least) := by
    rw [eW0.out, epb.out]; exact (kk.out W0 hblk0).2.2.2.2.2.2.2.2.1
  have a9 : (w.alloc (.cells #[.string (str code), .slice A1 n1 c1, .int .i64 tick, .int .i64 low, .int .i64 high, .int .i64 wide, .int .i64 rule, .int .i64 top, .int .i64 least, .int .i64 part, .slice A2 n2 c2] 25)).cell? ⟨w.heap.size, 9, none⟩ = some (.int .i64 part) := by
    rw [eW0.out, epb.out]; exact (kk.out W0 hblk0).2.2.2.2.2.2.2.2.2.1
  have a10 : (w.alloc (.cells #[.string (str code), .slice A1 n1 c1, .int .i64 tick, .int .i64 low, .int .i64 high, .int .i64 wide, .int .i64 rule, .int .i64 top, .int .i64 least, .int .i64 part, .slice A2 n2 c2] 25)).cell? ⟨w.heap.size, 10, none⟩ = some (.slice A2 n2 c2) := by
    rw [eW0.out, epb.out]; exact (kk.out W0 hblk0).2.2.2.2.2.2.2.2.2.2
  go_enter Try.func23, Try.ntmps23
  go_wp2_with fail
  have hs0 : W0.heap.size = pb + 1 := by rw [← eW0.out, World.size_alloc, epb.out]
  rw [eW0.out]
  rw [epb.out]
  clear a0 a1 a2 a3 a4 a5 a6 a7 a8 a9 a10 eW0
  obtain ⟨k0, k1, k2, k3, k4, k5, k6, k7, k8, k9, k10⟩ := kk.out W0 hblk0
  obtain ⟨W1, eW1⟩ : ∃ W, W0.alloc (.cells #[.int .i64 near, .int .i64 far] 56) = W := ⟨_, rfl⟩
  rw [eW1]
  have hq1 : W1.heap[pb + 1]? = some (.cells #[.int .i64 near, .int .i64 far] 56 (0, 0)) := by rw [← eW1, ← hs0]; exact heap_alloc_new W0 _
  have hblk1 : W1.heap[pb]? = some (.cells #[.string (str code), .slice A1 n1 c1, .int .i64 tick, .int .i64 low, .int .i64 high, .int .i64 wide, .int .i64 rule, .int .i64 top, .int .i64 least, .int .i64 part, .slice A2 n2 c2] 25 (0, 0)) := by rw [← eW1]; exact (heap_alloc_old _ _ hpb0).trans hblk0
  have hB1 : Below w.heap.size w W1 := by rw [← eW1]; exact hB0.alloc hB0.size _
  have hpb1 : pb < W1.heap.size := (Array.getElem?_eq_some_iff.1 hblk1).1
  have hqb1 : pb + 1 < W1.heap.size := (Array.getElem?_eq_some_iff.1 hq1).1
  have hpl : w.heap.size ≤ pb := by rw [epb.out]; exact Nat.le_refl _
  clear eW1 k0 k1 k2 k3 k4 k5 k6 k7 k8 k9 k10 hblk0 hpb0 hB0
  refine (HC.out W1 hB1).mono ?_
  intro e w2 hkk
  obtain ⟨⟨A, c, rfl, hc1, hc2, hPr⟩, b2⟩ := hK2.out _ _ _ hkk
  have hq2 := Lib.hid (show w2.heap[pb + 1]? = _ from (b2.block (pb + 1) hqb1).trans hq1)
  have HB2 := Lib.hid (hB1.trans (b2.mono hB1.size))
  replace hPr := Lib.hid hPr
  clear hkk hK2 HC b2 hB1 hq1 hblk1 hs0 hpb1 hqb1
  go_wp2_with fail
  go_loopw [17] (fun kv wr => ∃ a : Nat, kv = .int .i64 a ∧ a ≤ c0 ∧ Hid (F (c0 - max a n1) (max a n1) = (x, y)) ∧ Hid (Below w.heap.size w wr) ∧ Hid (Pairs wr A c0 I J) ∧ Hid (wr.heap[pb + 1]? = some (.cells #[.int .i64 near, .int .i64 far] 56 (0, 0)))) (fun k _ => c0 - (intOf k).toNat)
  case atStart => exact ⟨0, rfl, by omega, Lib.hid (by rw [Nat.zero_max]; exact g1.out), HB2, hPr, hq2⟩
  case round =>
    clear hPr HB2 hq2 g1
    obtain ⟨a, rfl, ha, rc, HB, hPr, hq⟩ := hrel
    by_cases hlt : a < c0
    · have e1 : decide ((a : Int) < (c0 : Int)) = true := decide_eq_true (by omega)
      have e2 : (a : Int) < (c0 : Int) := by omega
      obtain ⟨b, rfl, u0, u1⟩ := hPr.out a hlt
      have hka := hk.out a hlt
      have hst : ¬ (I a = near ∧ J a = far ∧ n1 ≤ a) → F (c0 - max (a + 1) n1) (max (a + 1) n1) = (x, y) := fun g => by
        have rc := rc.out
        by_cases g1 : a < n1
        · rw [show max (a + 1) n1 = max a n1 from by omega]; exact rc
        · rw [show max a n1 = a from by omega, show c0 - a = (c0 - (a + 1)) + 1 from by omega, hFs.out, if_neg (fun h => g ⟨h.1, h.2, by omega⟩)] at rc
          rw [show max (a + 1) n1 = a + 1 from by omega]; exact rc
      have hyes : (I a = near ∧ J a = far) → n1 ≤ a → ((a : Int), true) = (x, y) := fun g g1 => by
        have rc := rc.out
        rw [show max a n1 = a from by omega, show c0 - a = (c0 - (a + 1)) + 1 from by omega, hFs.out, if_pos g] at rc
        exact rc
      obtain ⟨ia, eia⟩ : ∃ v, I a = v := ⟨_, rfl⟩
      obtain ⟨ja, eja⟩ : ∃ v, J a = v := ⟨_, rfl⟩
      rw [eia] at u0 hst hyes hka
      rw [eja] at u1 hst hyes hka
      replace hst := Lib.hid hst
      replace hyes := Lib.hid hyes
      replace hka := Lib.hid hka
      have hal := Lib.hid ((HB.out).alloc (HB.out).size (.cells #[.int .i64 ia, .int .i64 ja] 56))
      have hqx := Lib.hid ((heap_alloc_old wr (.cells #[.int .i64 ia, .int .i64 ja] 56) (Array.getElem?_eq_some_iff.1 hq.out).1).trans hq.out)
      have hPx := Lib.hid (hPr.out.below ((Below.refl _ wr).alloc (Nat.le_refl _) (.cells #[.int .i64 ia, .int .i64 ja] 56)))
      obtain ⟨s0, s1, z0, z1, -, -⟩ := pair_facts hqx.out
      clear eia eja rc HB hPr hq
      by_cases c1 : ia = near
      · subst c1
        by_cases c2 : ja = far
        · subst c2
          have g1 : (ia == ia) = true := by simp
          have g2 : (ja == ja) = true := by simp
          obtain ⟨W5, eW5⟩ : ∃ W, wr.alloc (.cells #[.int .i64 ia, .int .i64 ja] 56) = W := ⟨_, rfl⟩
          rw [eW5] at hal hqx hPx
          replace eW5 := Lib.hid eW5
          have HP := PSpread_any ia ja W5
          go_wp2_with fail
          rw [eW5.out]
          clear s0 s1 z0 z1 u0 u1 eW5
          by_cases c3 : a < n1
          · rw [show (ia != ja) = false from by simp; exact hka.out.1 c3] at HP
            refine HP.mono ?_
            rintro e w5 ⟨rfl, b5⟩
            clear HP
            have HB6 := Lib.hid (hal.out.trans (b5.mono hal.out.size))
            have hP6 := Lib.hid (hPx.out.below b5)
            have hq6 := Lib.hid ((b5.block _ (Array.getElem?_eq_some_iff.1 hqx.out).1).trans hqx.out)
            have nx := Lib.hid (hst.out (by omega))
            clear b5 hal hqx hPx hst hyes hka
            go_wp2_with fail
            go_roundw
            case rel => exact ⟨a + 1, by go_num, by omega, nx, HB6, hP6, hq6⟩
            case measure => simp [intOf]; omega
          · rw [show (ia != ja) = true from by simp; exact hka.out.2 (by omega)] at HP
            refine HP.mono ?_
            rintro e w5 ⟨rfl, b5⟩
            clear HP
            have HB6 := Lib.hid (hal.out.trans (b5.mono hal.out.size))
            have RC := Lib.hid (hyes.out (by simp) (by omega))
            clear b5 hal hqx hPx hst hyes hka
            go_wp2_with fail
            go_ret2
            exact ⟨by injection RC.out with a b; rw [← a, ← b]; rfl, HB6.out⟩
        · have g1 : (ia == ia) = true := by simp
          have g2 : (ja == far) = false := by simp; exact c2
          have nx := Lib.hid (hst.out (fun h => c2 h.2.1))
          clear hst hyes hka
          go_wp2_with fail
          go_roundw
          case rel => exact ⟨a + 1, by go_num, by omega, nx, hal, hPx, hqx⟩
          case measure => simp [intOf]; omega
      · have g1 : (ia == near) = false := by simp; exact c1
        have nx := Lib.hid (hst.out (fun h => c1 h.1))
        clear hst hyes hka
        go_wp2_with fail
        go_roundw
        case rel => exact ⟨a + 1, by go_num, by omega, nx, hal, hPx, hqx⟩
        case measure => simp [intOf]; omega
    · have e1 : decide ((a : Int) < (c0 : Int)) = false := decide_eq_false (by omega)
      have RC := rc.out
      rw [show c0 - max a n1 = 0 from by omega, hF0.out] at RC
      replace RC := Lib.hid RC
      clear rc
      go_wp2_with fail
      go_ret2
      exact ⟨by injection RC.out with a b; rw [← a, ← b]; rfl, HB.out⟩
end Go.Proofs.Ytbigmbpclikenaa
