/-
  Contract: Find, of the program.
-/
import Derived.Test.YtbigmbpclikenaaRdName
import Derived.Test.YtbigmbpclikenaaRefFind
namespace Go.Proofs.Ytbigmbpclikenaa
open Go.RowKit
set_option linter.unusedVariables false
set_option linter.unusedSimpArgs false

set_option maxRecDepth 100000 in
set_option maxHeartbeats 1600000 in
theorem PFind_any (p : PD) (l : List UInt8) (w : World) (h : Hid (p.Ok w)) :
    Calls Try.prog 24 #[p.val, .string (str l)] w fun e w' => e = .returned (.tuple #[.int .i64 (findI p l).1, .bool (findI p l).2]) ∧ Below w.heap.size w w' := by
  have HC : Hid (∀ W, Below w.heap.size w W → Calls Try.prog 45 #[p.val] W _) := Lib.hid (fun W b => Instruments_any p W (Lib.hid (h.out.below b)))
  obtain ⟨c0, hc0⟩ : ∃ e, cntL p = e := ⟨_, rfl⟩
  obtain ⟨I, hI⟩ : ∃ I, (fun k : Nat => (legsL p k).1) = I := ⟨_, rfl⟩
  obtain ⟨J, hJ⟩ : ∃ J, (fun k : Nat => (legsL p k).2.1) = J := ⟨_, rfl⟩
  have h21 := cntL_le p
  rw [hc0, hI, hJ] at HC
  rw [hc0] at h21
  obtain ⟨⟨x, y⟩, g0⟩ : ∃ c, findI p l = c := ⟨_, rfl⟩
  rw [g0]
  obtain ⟨F, hF⟩ : ∃ F, findFrom p l = F := ⟨_, rfl⟩
  have hF0 : ∀ k, F 0 k = (0, false) := fun k => by rw [← hF]; rfl
  obtain ⟨L, hL⟩ : ∃ L, (fun k : Nat => nameL p k) = L := ⟨_, rfl⟩
  have hFs : ∀ d k, F (d + 1) k = if L k = l then ((k : Int), true) else F d (k + 1) := fun d k => by rw [← hF, ← hL]; rfl
  have g1 : F c0 0 = (x, y) := by rw [← g0, ← hF, ← hc0]; rfl
  have HN : ∀ k : Nat, k < c0 → ∀ W, Below w.heap.size w W → Calls Try.prog 47 #[p.val, .agg #[.int .i64 (I k), .int .i64 (J k)]] W fun e w' => e = .returned (.string (str (L k))) ∧ Below W.heap.size W w' := fun k g W b => by
    rw [← hI, ← hJ, ← hL]
    exact NameAt_any p k W (Lib.hid (h.out.below b)) (by omega) (by rw [hc0]; omega)
  replace g1 := Lib.hid g1
  replace hF0 := Lib.hid hF0
  replace hFs := Lib.hid hFs
  replace HN := Lib.hid HN
  clear hc0 hI hJ hL g0 hF
  have l1 := h.out.l1
  have m1 := h.out.m1
  have l2 := h.out.l2
  have m2 := h.out.m2
  have hco := h.out.code
  obtain ⟨ti1, ti2⟩ := h.out.tick
  obtain ⟨lo1, lo2⟩ := h.out.low
  obtain ⟨hg1, hg2⟩ := h.out.high
  obtain ⟨wi1, wi2⟩ := h.out.wide
  obtain ⟨ru1, ru2⟩ := h.out.rule
  obtain ⟨to1, to2⟩ := h.out.top
  obtain ⟨le1, le2⟩ := h.out.least
  obtain ⟨pa1, pa2⟩ := h.out.part
  have HO1 : Hid (∀ W, Below w.heap.size w W → Nums W p.A1 p.n1 p.Q) := Lib.hid (fun W b => h.out.months.below b)
  have HO2 : Hid (∀ W, Below w.heap.size w W → Nums W p.A2 p.n2 p.R) := Lib.hid (fun W b => h.out.settle.below b)
  clear h
  obtain ⟨K, hK⟩ : ∃ K : World → Ending → World → Prop, (fun W e w' => (∃ A c, e = .returned (.slice A c0 c) ∧ c0 ≤ c ∧ c ≤ 21 ∧ Pairs w' A c0 I J) ∧ Below W.heap.size W w') = K := ⟨_, rfl⟩
  have hK2 : ∀ W e w', K W e w' → (∃ A c, e = .returned (.slice A c0 c) ∧ c0 ≤ c ∧ c ≤ 21 ∧ Pairs w' A c0 I J) ∧ Below W.heap.size W w' := fun W e w' g => by
    rw [← hK] at g
    exact g
  replace HC : Hid (∀ W, Below w.heap.size w W → Calls Try.prog 45 #[p.val] W (K W)) := Lib.hid (fun W b => by rw [← hK]; exact HC.out W b)
  replace hK2 := Lib.hid hK2
  clear hK
  obtain ⟨code, A1, n1, c1, tick, low, high, wide, rule, top, least, part, A2, n2, c2, Q, R⟩ := p
  simp only at l1 m1 l2 m2 hco ti1 ti2 lo1 lo2 hg1 hg2 wi1 wi2 ru1 ru2 to1 to2 le1 le2 pa1 pa2 HO1 HO2 g1
  replace HN : Hid (∀ k : Nat, k < c0 → ∀ W, Below w.heap.size w W → Calls Try.prog 47 #[.agg #[.string (str code), .slice A1 n1 c1, .int .i64 tick, .int .i64 low, .int .i64 high, .int .i64 wide, .int .i64 rule, .int .i64 top, .int .i64 least, .int .i64 part, .slice A2 n2 c2], .agg #[.int .i64 (I k), .int .i64 (J k)]] W fun e w' => e = .returned (.string (str (L k))) ∧ Below W.heap.size W w') := HN
  replace HC : Hid (∀ W, Below w.heap.size w W → Calls Try.prog 45 #[.agg #[.string (str code), .slice A1 n1 c1, .int .i64 tick, .int .i64 low, .int .i64 high, .int .i64 wide, .int .i64 rule, .int .i64 top, .int .i64 least, .int .i64 part, .slice A2 n2 c2]] W (K W)) := HC
  show Calls Try.prog 24 #[.agg #[.string (str code), .slice A1 n1 c1, .int .i64 tick, .int .i64 low, .int .i64 high, .int .i64 wide, .int .i64 rule, .int .i64 top, .int .i64 least, .int .i64 part, .slice A2 n2 c2], .string (str l)] w _
  obtain ⟨W0, eW0⟩ : ∃ W0, w.alloc (.cells #[.string (str code), .slice A1 n1 c1, .int .i64 tick, .int .i64 low, .int .i64 high, .int .i64 wide, .int .i64 rule, .int .i64 top, .int .i64 least, .int .i64 part, .slice A2 n2 c2] 25) = W0 := ⟨_, rfl⟩
  obtain ⟨pb, epb⟩ : ∃ pb, w.heap.size = pb := ⟨_, rfl⟩
  have hblk0 : W0.heap[pb]? = some (.cells #[.string (str code), .slice A1 n1 c1, .int .i64 tick, .int .i64 low, .int .i64 high, .int .i64 wide, .int .i64 rule, .int .i64 top, .int .i64 least, .int .i64 part, .slice A2 n2 c2] 25 (0, 0)) := by
    rw [← eW0, ← epb]; exact heap_alloc_new w _
  have hB0 : Below w.heap.size w W0 := by rw [← eW0]; exact (Below.refl _ w).alloc (Nat.le_refl _) _
  have hpb0 : pb < W0.heap.size := (Array.getElem?_eq_some_iff.1 hblk0).1
  have kk : ∀ W : World, W.heap[pb]? = some (.cells #[.string (str code), .slice A1 n1 c1, .int .i64 tick, .int .i64 low, .int .i64 high, .int .i64 wide, .int .i64 rule, .int .i64 top, .int .i64 least, .int .i64 part, .slice A2 n2 c2] 25 (0, 0)) → W.cell? ⟨pb, 0, none⟩ = some (.string (str code)) ∧ W.cell? ⟨pb, 1, none⟩ = some (.slice A1 n1 c1) ∧ W.cell? ⟨pb, 2, none⟩ = some (.int .i64 tick) ∧ W.cell? ⟨pb, 3, none⟩ = some (.int .i64 low) ∧ W.cell? ⟨pb, 4, none⟩ = some (.int .i64 high) ∧ W.cell? ⟨pb, 5, none⟩ = some (.int .i64 wide) ∧ W.cell? ⟨pb, 6, none⟩ = some (.int .i64 rule) ∧ W.cell? ⟨pb, 7, none⟩ = some (.int .i64 top) ∧ W.cell? ⟨pb, 8, none⟩ = some (.int .i64 least) ∧ W.cell? ⟨pb, 9, none⟩ = some (.int .i64 part) ∧ W.cell? ⟨pb, 10, none⟩ = some (.slice A2 n2 c2) := by
    intro W hb
    refine ⟨?_, ?_, ?_, ?_, ?_, ?_, ?_, ?_, ?_, ?_, ?_⟩ <;> (rw [Lib.cell_of_heap hb]; rfl)
  replace kk := Lib.hid kk
  replace eW0 := Lib.hid eW0
  replace epb := Lib.hid epb
  have a0 : (w.alloc (.cells #[.string (str code), .slice A1 n1 c1, .int .i64 tick, .int .i64 low, .int .i64 high, .int .i64 wide, .int .i64 rule, .int .i64 top, .int .i64 least, .int .i64 part, .slice A2 n2 c2] 25)).cell? ⟨w.heap.size, 0, none⟩ = some (.string (str code)) := by
    rw [eW0.out, epb.out]; exact (kk.out W0 hblk0).1
  have a1 : (w.alloc (.cells #[.string (str code), .slice A1 n1 c1, .int .i64 tick, .int .i64 low, .int .i64 high, .int .i64 wide, .int .i64 rule, .int .i64 top, .int .i64 least, .int .i64 part, .slice A2 n2 c2] 25)).cell? ⟨w.heap.size, 1, none⟩ = some (.slice A1 n1 c1) := by
    rw [eW0.out, epb.out]; exact (kk.out W0 hblk0).2.1
  have a2 : (w.alloc (.cells #[.string (str code), .slice A1 n1 c1, .int .i64 tick, .int .i64 low, .int .i64 high, .int .i64 wide, .int .i64 rule, .int .i64 top, .int .i64 least, .int .i64 part, .slice A2 n2 c2] 25)).cell? ⟨w.heap.size, 2, none⟩ = some (.int .i64 tick) := by
    rw [eW0.out, epb.out]; exact (kk.out W0 hblk0).2.2.1
  have a3 : (w.alloc (.cells #[.string (str code), .slice A1 n1 c1, .int .i64 tick, .int .i64 low, .int .i64 high, .int .i64 wide, .int .i64 rule, .int .i64 top, .int .i64 least, .int .i64 part, .slice A2 n2 c2] 25)).cell? ⟨w.heap.size, 3, none⟩ = some (.int .i64 low) := by
    rw [eW0.out, epb.out]; exact (kk.out W0 hblk0).2.2.2.1
  have a4 : (w.alloc (.cells #[.string (str code), .slice A1 n1 c1, .int .i64 tick, .int .i64 low, .int .i64 high, .int .i64 wide, .int .i64 rule, .int .i64 top, .int .i64 least, .int .i64 part, .slice A2 n2 c2] 25)).cell? ⟨w.heap.size, 4, none⟩ = some (.int .i64 high) := by
    rw [eW0.out, epb.out]; exact (kk.out W0 hblk0).2.2.2.2.1
  have a5 : (w.alloc (.cells #[.string (str code), .slice A1 n1 c1, .int .i64 tick, .int .i64 low, .int .i64 high, .int .i64 wide, .int .i64 rule, .int .i64 top, .int .i64 least, .int .i64 part, .slice A2 n2 c2] 25)).cell? ⟨w.heap.size, 5, none⟩ = some (.int .i64 wide) := by
    rw [eW0.out, epb.out]; exact (kk.out W0 hblk0).2.2.2.2.2.1
  have a6 : (w.alloc (.cells #[.string (str code), .slice A1 n1 c1, .int .i64 tick, .int .i64 low, .int .i64 high, .int .i64 wide, .int .i64 rule, .int .i64 top, .int .i64 least, .int .i64 part, .slice A2 n2 c2] 25)).cell? ⟨w.heap.size, 6, none⟩ = some (.int .i64 rule) := by
    rw [eW0.out, epb.out]; exact (kk.out W0 hblk0).2.2.2.2.2.2.1
  have a7 : (w.alloc (.cells #[.string (str code), .slice A1 n1 c1, .int .i64 tick, .int .i64 low, .int .i64 high, .int .i64 wide, .int .i64 rule, .int .i64 top, .int .i64 least, .int .i64 part, .slice A2 n2 c2] 25)).cell? ⟨w.heap.size, 7, none⟩ = some (.int .i64 top) := by
    rw [eW0.out, epb.out]; exact (kk.out W0 hblk0).2.2.2.2.2.2.2.1
  have a8 : (w.alloc (.cells #[.string (str code), .slice A1 n1 c1, .int .i64 tick, .int .i64 low, .int .i64 high, .int .i64 wide, .int .i64 rule, .int .i64 top, .int .i64 least, .int .i64 part, .slice A2 n2 c2] 25)).cell? ⟨w.heap.size, 8, none⟩ = some (.int .i64 least) := by
    rw [eW0.out, epb.out]; exact (kk.out W0 hblk0).2.2.2.2.2.2.2.2.1
  have a9 : (w.alloc (.cells #[.string (str code), .slice A1 n1 c1, .int .i64 tick, .int .i64 low, .int .i64 high, .int .i64 wide, .int .i64 rule, .int .i64 top, .int .i64 least, .int .i64 part, .slice A2 n2 c2] 25)).cell? ⟨w.heap.size, 9, none⟩ = some (.int .i64 part) := by
    rw [eW0.out, epb.out]; exact (kk.out W0 hblk0).2.2.2.2.2.2.2.2.2.1
  have a10 : (w.alloc (.cells #[.string (str code), .slice A1 n1 c1, .int .i64 tick, .int .i64 low, .int .i64 high, .int .i64 wide, .int .i64 rule, .int .i64 top, .int .i64 least, .int .i64 part, .slice A2 n2 c2] 25)).cell? ⟨w.heap.size, 10, none⟩ = some (.slice A2 n2 c2) := by
    rw [eW0.out, epb.out]; exact (kk.out W0 hblk0).2.2.2.2.2.2.2.2.2.2
  go_enter Try.func24, Try.ntmps24
  go_wp2_with fail
  rw [eW0.out]
  rw [epb.out]
  clear a0 a1 a2 a3 a4 a5 a6 a7 a8 a9 a10 eW0
  obtain ⟨k0, k1, k2, k3, k4, k5, k6, k7, k8, k9, k10⟩ := kk.out W0 hblk0
  refine (HC.out W0 hB0).mono ?_
  intro e w2 hkk
  obtain ⟨⟨A, c, rfl, hc1, hc2, hPr⟩, b2⟩ := hK2.out _ _ _ hkk
  have hblk2 := Lib.hid (show w2.heap[pb]? = _ from (b2.block pb hpb0).trans hblk0)
  have HB2 := Lib.hid (hB0.trans (b2.mono hB0.size))
  replace hPr := Lib.hid hPr
  clear hkk hK2 HC b2 hB0 hblk0 hpb0 k0 k1 k2 k3 k4 k5 k6 k7 k8 k9 k10
  go_wp2_with fail
  go_loopw [11] (fun kv wr => ∃ a : Nat, kv = .int .i64 a ∧ a ≤ c0 ∧ Hid (F (c0 - a) a = (x, y)) ∧ Hid (Below w.heap.size w wr) ∧ Hid (Pairs wr A c0 I J) ∧ Hid (wr.heap[pb]? = some (.cells #[.string (str code), .slice A1 n1 c1, .int .i64 tick, .int .i64 low, .int .i64 high, .int .i64 wide, .int .i64 rule, .int .i64 top, .int .i64 least, .int .i64 part, .slice A2 n2 c2] 25 (0, 0)))) (fun k _ => c0 - (intOf k).toNat)
  case atStart => exact ⟨0, rfl, by omega, Lib.hid (by rw [Nat.sub_zero]; exact g1.out), HB2, hPr, hblk2⟩
  case round =>
    clear hPr HB2 hblk2 g1
    obtain ⟨a, rfl, ha, rc, HB, hPr, hb⟩ := hrel
    by_cases hlt : a < c0
    · have e1 : decide ((a : Int) < (c0 : Int)) = true := decide_eq_true (by omega)
      have e2 : (a : Int) < (c0 : Int) := by omega
      obtain ⟨b, rfl, u0, u1⟩ := hPr.out a hlt
      have hka := HN.out a hlt
      have rc2 := rc.out
      rw [show c0 - a = (c0 - (a + 1)) + 1 from by omega, hFs.out] at rc2
      obtain ⟨ia, eia⟩ : ∃ v, I a = v := ⟨_, rfl⟩
      obtain ⟨ja, eja⟩ : ∃ v, J a = v := ⟨_, rfl⟩
      obtain ⟨la, ela⟩ : ∃ v, L a = v := ⟨_, rfl⟩
      rw [eia] at u0
      rw [eja] at u1
      rw [eia, eja, ela] at hka
      rw [ela] at rc2
      replace hka := Lib.hid hka
      replace rc2 := Lib.hid rc2
      obtain ⟨W5, eW5⟩ : ∃ W, wr.alloc (.cells #[.int .i64 ia, .int .i64 ja] 56) = W := ⟨_, rfl⟩
      have hal : Below w.heap.size w W5 := by rw [← eW5]; exact (HB.out).alloc (HB.out).size _
      have hbx : W5.heap[pb]? = some (.cells #[.string (str code), .slice A1 n1 c1, .int .i64 tick, .int .i64 low, .int .i64 high, .int .i64 wide, .int .i64 rule, .int .i64 top, .int .i64 least, .int .i64 part, .slice A2 n2 c2] 25 (0, 0)) := by rw [← eW5]; exact (heap_alloc_old wr (.cells #[.int .i64 ia, .int .i64 ja] 56) (Array.getElem?_eq_some_iff.1 hb.out).1).trans hb.out
      have hPx : Pairs W5 (some ⟨b, 0, none⟩) c0 I J := by rw [← eW5]; exact hPr.out.below ((Below.refl _ wr).alloc (Nat.le_refl _) _)
      obtain ⟨qb, eqb⟩ : ∃ q, wr.heap.size = q := ⟨_, rfl⟩
      have hqx : W5.heap[qb]? = some (.cells #[.int .i64 ia, .int .i64 ja] 56 (0, 0)) := by rw [← eW5, ← eqb]; exact heap_alloc_new wr _
      have hHP := hka.out W5 hal
      clear eia eja ela rc hka
      obtain ⟨k0, k1, k2, k3, k4, k5, k6, k7, k8, k9, k10⟩ := kk.out W5 hbx
      obtain ⟨s0, s1, z0, z1, -, -⟩ := pair_facts hqx
      replace hal := Lib.hid hal
      replace hbx := Lib.hid hbx
      replace hPx := Lib.hid hPx
      replace hHP := Lib.hid hHP
      clear hqx HB hPr hb
      replace eW5 := Lib.hid eW5
      go_upto_region 4 with (fail)
      rw [eW5.out]
      go_wp2_with fail
      refine hHP.out.mono ?_
      rintro e w5 ⟨rfl, b5⟩
      have HB6 := Lib.hid (hal.out.trans (b5.mono hal.out.size))
      have hP6 := Lib.hid (hPx.out.below b5)
      have hb6 := Lib.hid ((b5.block _ (Array.getElem?_eq_some_iff.1 hbx.out).1).trans hbx.out)
      clear b5 hal hbx hPx hHP eW5 k0 k1 k2 k3 k4 k5 k6 k7 k8 k9 k10 s0 s1 z0 z1 u0 u1
      by_cases c1 : la = l
      · have g1 := str_same c1
        have RC := rc2.out
        rw [if_pos c1] at RC
        replace RC := Lib.hid RC
        clear rc2 c1
        go_wp2_with fail
        go_ret2
        exact ⟨by injection RC.out with a b; rw [← a, ← b]; rfl, HB6.out⟩
      · have g1 := str_other c1
        have RC := rc2.out
        rw [if_neg c1] at RC
        replace RC := Lib.hid RC
        clear rc2 c1
        go_wp2_with fail
        go_roundw
        case rel => exact ⟨a + 1, by go_num, by omega, RC, HB6, hP6, hb6⟩
        case measure => simp [intOf]; omega
    · have e1 : decide ((a : Int) < (c0 : Int)) = false := decide_eq_false (by omega)
      have RC := rc.out
      rw [show c0 - a = 0 from by omega, hF0.out] at RC
      replace RC := Lib.hid RC
      clear rc
      go_wp2_with fail
      go_ret2
      exact ⟨by injection RC.out with a b; rw [← a, ← b]; rfl, HB.out⟩
end Go.Proofs.Ytbigmbpclikenaa
