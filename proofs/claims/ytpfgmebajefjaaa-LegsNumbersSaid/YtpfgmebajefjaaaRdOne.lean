/-
  Contract: instrument, of the program.
-/
import Derived.Test.YtpfgmebajefjaaaRdCount
namespace Go.Proofs.Ytpfgmebajefjaaa
open Go.RowKit
set_option linter.unusedVariables false
set_option linter.unusedSimpArgs false

theorem results_cell_row_tmp {P : Program} {fn : Func} {p u : Tmp} {ty : TypeId} (h : fn.results = #[.cell p ty, .tmp u]) (tmps : Array Value) (w : World) (g : Nat) (t : TypeId) (cs : Array Value) (fr : Nat × Nat) (d : TypeDesc)
    (hp : tmps.getD p undef = .pointer (some ⟨g, 0, none⟩)) (hg : w.heap[g]? = some (.cells cs t fr))
    (hu : P.underlying ty = some d) (hd : (match d with | .struct _ | .array _ _ => true | _ => false) = true) (hi : (P.info? ty).map (·.size) = some cs.size) :
    (results fn tmps).run P w = .ok (.tuple #[.agg cs, tmps.getD u undef]) w := by
  rw [results_cell_tmp h, hp]
  simp [asAddr, run_loadVar_row w g t ty cs fr d hg hu hd hi, Result.andThen]
theorem pair_facts {w : World} {g : Nat} {x y : Value} {t : TypeId} (h : w.heap[g]? = some (.cells #[x, y] t (0, 0))) : w.cell? ⟨g, 0, none⟩ = some x ∧ w.cell? ⟨g, 1, none⟩ = some y ∧ w.frozen? ⟨g, 0, none⟩ = false ∧ w.frozen? ⟨g, 1, none⟩ = false ∧
    (∀ u, (w.setCell ⟨g, 0, none⟩ u).cell? ⟨g, 1, none⟩ = some y) ∧ (∀ u v, ((w.setCell ⟨g, 0, none⟩ u).setCell ⟨g, 1, none⟩ v).heap[g]? = some (.cells #[u, v] t (0, 0))) := by
  have hs : ∀ u, (w.setCell ⟨g, 0, none⟩ u).heap[g]? = some (.cells #[u, y] t (0, 0)) := fun u => heap_setCell_same w g 0 _ t u h
  refine ⟨?_, ?_, frozen_of_row w g 0 _ t h, frozen_of_row w g 1 _ t h, fun u => ?_, fun u v => ?_⟩
  · rw [cell_of_row w g 0 _ t _ h]; rfl
  · rw [cell_of_row w g 1 _ t _ h]; rfl
  · rw [cell_of_row _ g 1 _ t _ (hs u)]; rfl
  · exact heap_setCell_same _ g 1 _ t v (hs u)
set_option maxRecDepth 100000 in
set_option maxHeartbeats 1600000 in
theorem Instrument_any (p : PD) (inst : Int) (w : World) (h : Hid (p.Ok w)) (hi : I64 inst) :
    Calls Try.prog 20 #[p.val, .int .i64 inst] w fun e w' => e = .returned (.tuple #[.agg #[.int .i64 (legsL p inst).1, .int .i64 (legsL p inst).2.1], .bool (decide (0 ≤ inst ∧ inst < cntL p))]) ∧ Below w.heap.size w w' := by
  have HC : Hid (∀ W, Below w.heap.size w W → Calls Try.prog 34 #[p.val] W _) := Lib.hid (fun W b => Instruments_any p W (Lib.hid (h.out.below b)))
  obtain ⟨c0, hc0⟩ : ∃ e, cntL p = e := ⟨_, rfl⟩
  obtain ⟨I, hI⟩ : ∃ I, (fun k : Nat => (legsL p k).1) = I := ⟨_, rfl⟩
  obtain ⟨J, hJ⟩ : ∃ J, (fun k : Nat => (legsL p k).2.1) = J := ⟨_, rfl⟩
  have h21 := cntL_le p
  rw [hc0, hI, hJ] at HC
  rw [hc0] at h21
  obtain ⟨⟨x, y, z⟩, hL⟩ : ∃ l, legsL p inst = l := ⟨_, rfl⟩
  have r1 : ¬ (0 ≤ inst ∧ inst < c0) → x = 0 ∧ y = 0 := fun g => by
    rw [← hc0] at g
    have := legs_none g
    rw [hL] at this
    injection this with g1 g2
    injection g2 with g2 g3
    exact ⟨g1, g2⟩
  have r2 : ∀ k : Nat, inst = k → I k = x ∧ J k = y := fun k g => by
    subst g
    rw [← hI, ← hJ]
    show (legsL p k).1 = x ∧ (legsL p k).2.1 = y
    rw [hL]
    exact ⟨rfl, rfl⟩
  rw [hL, hc0]
  obtain ⟨v, hv⟩ : ∃ v, decide (0 ≤ inst ∧ inst < (c0 : Int)) = v := ⟨_, rfl⟩
  rw [hv]
  replace hv := Lib.hid hv
  replace r1 := Lib.hid r1
  replace r2 := Lib.hid r2
  obtain ⟨hi1, hi2⟩ := hi
  clear hL hc0 hI hJ
  have l1 := h.out.l1
  have m1 := h.out.m1
  have l2 := h.out.l2
  have m2 := h.out.m2
  have hco := h.out.code
  obtain ⟨ti1, ti2⟩ := h.out.tick
  obtain ⟨lo1, lo2⟩ := h.out.low
  obtain ⟨hg1, hg2⟩ := h.out.high
  obtain ⟨wi1, wi2⟩ := h.out.wide
  obtain ⟨ru1, ru2⟩ := h.out.rule
  obtain ⟨to1, to2⟩ := h.out.top
  obtain ⟨le1, le2⟩ := h.out.least
  obtain ⟨pa1, pa2⟩ := h.out.part
  have HO1 : Hid (∀ W, Below w.heap.size w W → Nums W p.A1 p.n1 p.Q) := Lib.hid (fun W b => h.out.months.below b)
  have HO2 : Hid (∀ W, Below w.heap.size w W → Nums W p.A2 p.n2 p.R) := Lib.hid (fun W b => h.out.settle.below b)
  clear h
  obtain ⟨K, hK⟩ : ∃ K : World → Ending → World → Prop, (fun W e w' => (∃ A c, e = .returned (.slice A c0 c) ∧ c0 ≤ c ∧ c ≤ 21 ∧ Pairs w' A c0 I J) ∧ Below W.heap.size W w') = K := ⟨_, rfl⟩
  have hK2 : ∀ W e w', K W e w' → (∃ A c, e = .returned (.slice A c0 c) ∧ c0 ≤ c ∧ c ≤ 21 ∧ Pairs w' A c0 I J) ∧ Below W.heap.size W w' := fun W e w' g => by
    rw [← hK] at g
    exact g
  replace HC : Hid (∀ W, Below w.heap.size w W → Calls Try.prog 34 #[p.val] W (K W)) := Lib.hid (fun W b => by rw [← hK]; exact HC.out W b)
  replace hK2 := Lib.hid hK2
  clear hK
  obtain ⟨code, A1, n1, c1, tick, low, high, wide, rule, top, least, part, A2, n2, c2, Q, R⟩ := p
  simp only at l1 m1 l2 m2 hco ti1 ti2 lo1 lo2 hg1 hg2 wi1 wi2 ru1 ru2 to1 to2 le1 le2 pa1 pa2 HO1 HO2 
  replace HC : Hid (∀ W, Below w.heap.size w W → Calls Try.prog 34 #[.agg #[.string (str code), .slice A1 n1 c1, .int .i64 tick, .int .i64 low, .int .i64 high, .int .i64 wide, .int .i64 rule, .int .i64 top, .int .i64 least, .int .i64 part, .slice A2 n2 c2]] W (K W)) := HC
  show Calls Try.prog 20 #[.agg #[.string (str code), .slice A1 n1 c1, .int .i64 tick, .int .i64 low, .int .i64 high, .int .i64 wide, .int .i64 rule, .int .i64 top, .int .i64 least, .int .i64 part, .slice A2 n2 c2], .int .i64 inst] w _
  obtain ⟨W0, eW0⟩ : ∃ W0, w.alloc (.cells #[.string (str code), .slice A1 n1 c1, .int .i64 tick, .int .i64 low, .int .i64 high, .int .i64 wide, .int .i64 rule, .int .i64 top, .int .i64 least, .int .i64 part, .slice A2 n2 c2] 25) = W0 := ⟨_, rfl⟩
  obtain ⟨pb, epb⟩ : ∃ pb, w.heap.size = pb := ⟨_, rfl⟩
  have hblk0 : W0.heap[pb]? = some (.cells #[.string (str code), .slice A1 n1 c1, .int .i64 tick, .int .i64 low, .int .i64 high, .int .i64 wide, .int .i64 rule, .int .i64 top, .int .i64 least, .int .i64 part, .slice A2 n2 c2] 25 (0, 0)) := by
    rw [← eW0, ← epb]; exact heap_alloc_new w _
  have hB0 : Below w.heap.size w W0 := by rw [← eW0]; exact (Below.refl _ w).alloc (Nat.le_refl _) _
  have hpb0 : pb < W0.heap.size := (Array.getElem?_eq_some_iff.1 hblk0).1
  have kk : ∀ W : World, W.heap[pb]? = some (.cells #[.string (str code), .slice A1 n1 c1, .int .i64 tick, .int .i64 low, .int .i64 high, .int .i64 wide, .int .i64 rule, .int .i64 top, .int .i64 least, .int .i64 part, .slice A2 n2 c2] 25 (0, 0)) → W.cell? ⟨pb, 0, none⟩ = some (.string (str code)) ∧ W.cell? ⟨pb, 1, none⟩ = some (.slice A1 n1 c1) ∧ W.cell? ⟨pb, 2, none⟩ = some (.int .i64 tick) ∧ W.cell? ⟨pb, 3, none⟩ = some (.int .i64 low) ∧ W.cell? ⟨pb, 4, none⟩ = some (.int .i64 high) ∧ W.cell? ⟨pb, 5, none⟩ = some (.int .i64 wide) ∧ W.cell? ⟨pb, 6, none⟩ = some (.int .i64 rule) ∧ W.cell? ⟨pb, 7, none⟩ = some (.int .i64 top) ∧ W.cell? ⟨pb, 8, none⟩ = some (.int .i64 least) ∧ W.cell? ⟨pb, 9, none⟩ = some (.int .i64 part) ∧ W.cell? ⟨pb, 10, none⟩ = some (.slice A2 n2 c2) := by
    intro W hb
    refine ⟨?_, ?_, ?_, ?_, ?_, ?_, ?_, ?_, ?_, ?_, ?_⟩ <;> (rw [Lib.cell_of_heap hb]; rfl)
  replace kk := Lib.hid kk
  replace eW0 := Lib.hid eW0
  replace epb := Lib.hid epb
  have a0 : (w.alloc (.cells #[.string (str code), .slice A1 n1 c1, .int .i64 tick, .int .i64 low, .int .i64 high, .int .i64 wide, .int .i64 rule, .int .i64 top, .int .i64 least, .int .i64 part, .slice A2 n2 c2] 25)).cell? ⟨w.heap.size, 0, none⟩ = some (.string (str code)) := by
    rw [eW0.out, epb.out]; exact (kk.out W0 hblk0).1
  have a1 : (w.alloc (.cells #[.string (str code), .slice A1 n1 c1, .int .i64 tick, .int .i64 low, .int .i64 high, .int .i64 wide, .int .i64 rule, .int .i64 top, .int .i64 least, .int .i64 part, .slice A2 n2 c2] 25)).cell? ⟨w.heap.size, 1, none⟩ = some (.slice A1 n1 c1) := by
    rw [eW0.out, epb.out]; exact (kk.out W0 hblk0).2.1
  have a2 : (w.alloc (.cells #[.string (str code), .slice A1 n1 c1, .int .i64 tick, .int .i64 low, .int .i64 high, .int .i64 wide, .int .i64 rule, .int .i64 top, .int .i64 least, .int .i64 part, .slice A2 n2 c2] 25)).cell? ⟨w.heap.size, 2, none⟩ = some (.int .i64 tick) := by
    rw [eW0.out, epb.out]; exact (kk.out W0 hblk0).2.2.1
  have a3 : (w.alloc (.cells #[.string (str code), .slice A1 n1 c1, .int .i64 tick, .int .i64 low, .int .i64 high, .int .i64 wide, .int .i64 rule, .int .i64 top, .int .i64 least, .int .i64 part, .slice A2 n2 c2] 25)).cell? ⟨w.heap.size, 3, none⟩ = some (.int .i64 low) := by
    rw [eW0.out, epb.out]; exact (kk.out W0 hblk0).2.2.2.1
  have a4 : (w.alloc (.cells #[.string (str code), .slice A1 n1 c1, .int .i64 tick, .int .i64 low, .int .i64 high, .int .i64 wide, .int .i64 rule, .int .i64 top, .int .i64 least, .int .i64 part, .slice A2 n2 c2] 25)).cell? ⟨w.heap.size, 4, none⟩ = some (.int .i64 high) := by
    rw [eW0.out, epb.out]; exact (kk.out W0 hblk0).2.2.2.2.1
  have a5 : (w.alloc (.cells #[.string (str code), .slice A1 n1 c1, .int .i64 tick, .int .i64 low, .int .i64 high, .int .i64 wide, .int .i64 rule, .int .i64 top, .int .i64 least, .int .i64 part, .slice A2 n2 c2] 25)).cell? ⟨w.heap.size, 5, none⟩ = some (.int .i64 wide) := by
    rw [eW0.out, epb.out]; exact (kk.out W0 hblk0).2.2.2.2.2.1
  have a6 : (w.alloc (.cells #[.string (str code), .slice A1 n1 c1, .int .i64 tick, .int .i64 low, .int .i64 high, .int .i64 wide, .int .i64 rule, .int .i64 top, .int .i64 least, .int .i64 part, .slice A2 n2 c2] 25)).cell? ⟨w.heap.size, 6, none⟩ = some (.int .i64 rule) := by
    rw [eW0.out, epb.out]; exact (kk.out W0 hblk0).2.2.2.2.2.2.1
  have a7 : (w.alloc (.cells #[.string (str code), .slice A1 n1 c1, .int .i64 tick, .int .i64 low, .int .i64 high, .int .i64 wide, .int .i64 rule, .int .i64 top, .int .i64 least, .int .i64 part, .slice A2 n2 c2] 25)).cell? ⟨w.heap.size, 7, none⟩ = some (.int .i64 top) := by
    rw [eW0.out, epb.out]; exact (kk.out W0 hblk0).2.2.2.2.2.2.2.1
  have a8 : (w.alloc (.cells #[.string (str code), .slice A1 n1 c1, .int .i64 tick, .int .i64 low, .int .i64 high, .int .i64 wide, .int .i64 rule, .int .i64 top, .int .i64 least, .int .i64 part, .slice A2 n2 c2] 25)).cell? ⟨w.heap.size, 8, none⟩ = some (.int .i64 least) := by
    rw [eW0.out, epb.out]; exact (kk.out W0 hblk0).2.2.2.2.2.2.2.2.1
  have a9 : (w.alloc (.cells #[.string (str code), .slice A1 n1 c1, .int .i64 tick, .int .i64 low, .int .i64 high, .int .i64 wide, .int .i64 rule, .int .i64 top, .int .i64 least, .int .i64 part, .slice A2 n2 c2] 25)).cell? ⟨w.heap.size, 9, none⟩ = some (.int .i64 part) := by
    rw [eW0.out, epb.out]; exact (kk.out W0 hblk0).2.2.2.2.2.2.2.2.2.1
  have a10 : (w.alloc (.cells #[.string (str code), .slice A1 n1 c1, .int .i64 tick, .int .i64 low, .int .i64 high, .int .i64 wide, .int .i64 rule, .int .i64 top, .int .i64 least, .int .i64 part, .slice A2 n2 c2] 25)).cell? ⟨w.heap.size, 10, none⟩ = some (.slice A2 n2 c2) := by
    rw [eW0.out, epb.out]; exact (kk.out W0 hblk0).2.2.2.2.2.2.2.2.2.2
  go_enter Try.func20, Try.ntmps20
  go_wp2_with fail
  have hs0 : W0.heap.size = pb + 1 := by rw [← eW0.out, World.size_alloc, epb.out]
  rw [eW0.out]
  rw [epb.out]
  clear a0 a1 a2 a3 a4 a5 a6 a7 a8 a9 a10 eW0
  obtain ⟨k0, k1, k2, k3, k4, k5, k6, k7, k8, k9, k10⟩ := kk.out W0 hblk0
  obtain ⟨W1, eW1⟩ : ∃ W, W0.alloc (.cells #[.int .i64 0, .int .i64 0] 45) = W := ⟨_, rfl⟩
  rw [eW1]
  have hq1 : W1.heap[pb + 1]? = some (.cells #[.int .i64 0, .int .i64 0] 45 (0, 0)) := by rw [← eW1, ← hs0]; exact heap_alloc_new W0 _
  have hB1 : Below w.heap.size w W1 := by rw [← eW1]; exact hB0.alloc hB0.size _
  have hpl : w.heap.size ≤ pb := by rw [epb.out]; exact Nat.le_refl _
  clear eW1 k0 k1 k2 k3 k4 k5 k6 k7 k8 k9 k10 hblk0 hpb0 hB0
  refine (HC.out W1 hB1).mono ?_
  intro e w2 hk
  obtain ⟨⟨A, c, rfl, hc1, hc2, hPr⟩, b2⟩ := hK2.out _ _ _ hk
  have hq2 : w2.heap[pb + 1]? = _ := (b2.block (pb + 1) (Array.getElem?_eq_some_iff.1 hq1).1).trans hq1
  have HB := Lib.hid (hB1.trans (b2.mono hB1.size))
  clear hk hK2 HC b2 hB1 hq1 hs0
  by_cases q1 : inst < 0
  · have d1 : decide (inst < 0) = true := decide_eq_true q1
    obtain ⟨rfl, rfl⟩ := r1.out (by omega)
    have hvv := Lib.hid (show v = false from by rw [← hv.out]; exact decide_eq_false (by omega))
    clear q1 hPr
    obtain ⟨s0, s1, z0, z1, s2, s3⟩ := pair_facts hq2
    have s2 := s2 (.int .i64 0)
    have s3 := Lib.hid (s3 (.int .i64 0) (.int .i64 0))
    clear hq2
    go_wp2_with fail
    (try simp only [Exit.inBlock, Exit.then])
    refine bodyPost_ret (results_cell_row_tmp rfl _ _ (pb + 1) 45 _ (0, 0) _ rfl s3.out rfl rfl rfl) rfl ?_
    exact ⟨by rw [hvv.out]; rfl, (HB.out.setCell (by show w.heap.size ≤ pb + 1; omega) _).setCell (by show w.heap.size ≤ pb + 1; omega) _⟩
  · have d1 : decide (inst < 0) = false := decide_eq_false q1
    obtain ⟨k, rfl⟩ : ∃ k : Nat, inst = k := ⟨inst.toNat, by omega⟩
    by_cases q2 : c0 ≤ k
    · have d2 : decide ((c0 : Int) ≤ (k : Int)) = true := decide_eq_true (by omega)
      have d4 : decide (c0 ≤ k) = true := decide_eq_true q2
      obtain ⟨rfl, rfl⟩ := r1.out (by omega)
      have hvv := Lib.hid (show v = false from by rw [← hv.out]; exact decide_eq_false (by omega))
      clear q1 q2 hPr
      obtain ⟨s0, s1, z0, z1, s2, s3⟩ := pair_facts hq2
      have s2 := s2 (.int .i64 0)
      have s3 := Lib.hid (s3 (.int .i64 0) (.int .i64 0))
      clear hq2
      go_wp2_with fail
      (try simp only [Exit.inBlock, Exit.then])
      refine bodyPost_ret (results_cell_row_tmp rfl _ _ (pb + 1) 45 _ (0, 0) _ rfl s3.out rfl rfl rfl) rfl ?_
      exact ⟨by rw [hvv.out]; rfl, (HB.out.setCell (by show w.heap.size ≤ pb + 1; omega) _).setCell (by show w.heap.size ≤ pb + 1; omega) _⟩
    · have d2 : decide ((c0 : Int) ≤ (k : Int)) = false := decide_eq_false (by omega)
      have d4 : decide (c0 ≤ k) = false := decide_eq_false q2
      obtain ⟨b, rfl, g1, g2⟩ := hPr k (by omega)
      obtain ⟨rfl, rfl⟩ := r2.out k rfl
      have hvv := Lib.hid (show v = true from by rw [← hv.out]; exact decide_eq_true (by omega))
      have d3 : (k : Int) < (c0 : Int) := by omega
      clear q1 q2 hPr
      obtain ⟨s0, s1, z0, z1, s2, s3⟩ := pair_facts hq2
      have s2 := s2 (.int .i64 (I k))
      have s3 := Lib.hid (s3 (.int .i64 (I k)) (.int .i64 (J k)))
      clear hq2
      go_wp2_with fail
      (try simp only [Exit.inBlock, Exit.then])
      refine bodyPost_ret (results_cell_row_tmp rfl _ _ (pb + 1) 45 _ (0, 0) _ rfl s3.out rfl rfl rfl) rfl ?_
      exact ⟨by rw [hvv.out]; rfl, (HB.out.setCell (by show w.heap.size ≤ pb + 1; omega) _).setCell (by show w.heap.size ≤ pb + 1; omega) _⟩
end Go.Proofs.Ytpfgmebajefjaaa
