/-
  Are quotes told the same by both: held, of the law.
-/
import Derived.Test.YtdeofifidjbolaaIpShow
import Derived.Test.YtdeofifidjbolaaIpQuotes
import Derived.Test.YtdeofifidjbolaaImSame
import Derived.Test.YtdeofifidjbolaaImIn
namespace Go.Proofs.Ytdeofifidjbolaa
open Go.RowKit
set_option linter.unusedVariables false
set_option linter.unusedSimpArgs false

theorem quotesQ_len {p : PD} {T : List Tp} {inst side : Int} : (quotesQ p T inst side).length ≤ 100 := Nat.le_trans (List.length_filter_le _ _) allQ_len
theorem quotesQ_ok {p : PD} {T : List Tp} (h : OkT T) (inst side : Int) : OkQ (quotesQ p T inst side) := fun y hy => allQ_ok h inst side y (List.mem_filter.1 hy).1
set_option maxRecDepth 100000 in
set_option maxHeartbeats 8000000 in
theorem Held_any (p : PD) (AT : Option Addr) (nT cT : Nat) (T : List Tp) (inst side : Int) (w : World) (hp : Hid (p.Ok w)) (hT : Hid (HV fTp w AT nT T)) (hOT : Hid (OkT T)) (hi : I64 inst) (hs : I64 side) (hn : nT ≤ 1000) :
    Calls Try.prog 11 #[p.val, .slice AT nT cT, .int .i64 inst, .int .i64 side] w fun e w' => e = .returned (.bool true) ∧ Below w.heap.size w w' := by
  have H1 : Hid (∀ W, Below w.heap.size w W → Calls Try.prog 14 #[p.val, .slice AT nT cT, .int .i64 inst, .int .i64 side] W (AnsQ W.heap.size W (allQ p T inst side))) := Lib.hid (fun W b => PAll14_any p AT nT cT T inst side W (Lib.hid (hp.out.below b)) (Lib.hid (hT.out.below b)) hOT hi hs (by omega))
  have H2 : Hid (∀ W A c, Below w.heap.size w W → HV fTp W A nT T → Calls Try.prog 24 #[p.val, .slice A nT c, .int .i64 inst, .int .i64 side] W (AnsQ W.heap.size W (allQ p T inst side))) := Lib.hid (fun W A c b hv => RAll14_any p A nT c T inst side W (Lib.hid (hp.out.below b)) (Lib.hid hv) hOT hi hs (by omega))
  have H3 : Hid (∀ W, Below w.heap.size w W → Calls Try.prog 13 #[p.val, .slice AT nT cT, .int .i64 inst, .int .i64 side] W (AnsQ W.heap.size W (quotesQ p T inst side))) := Lib.hid (fun W b => PQuotes_any p AT nT cT T inst side W (Lib.hid (hp.out.below b)) (Lib.hid (hT.out.below b)) hOT hi hs (by omega))
  have H4 : Hid (∀ W A c, Below w.heap.size w W → HV fTp W A nT T → Calls Try.prog 26 #[p.val, .slice A nT c, .int .i64 inst, .int .i64 side] W (AnsQ W.heap.size W (quotesQ p T inst side))) := Lib.hid (fun W A c b hv => RQuotes_any p A nT c T inst side W (Lib.hid (hp.out.below b)) (Lib.hid hv) hOT hi hs (by omega))
  have HI : Hid (∀ W, Below w.heap.size w W → Calls Try.prog 25 #[.slice AT nT cT] W (GaveT 89 W T)) := Lib.hid (fun W b => In14_any AT nT cT T W hn (Lib.hid (hT.out.below b)))
  have hTl : Hid (T.length = nT) := Lib.hid hT.out.1
  have lA := allQ_len (p := p) (T := T) (inst := inst) (side := side)
  have lQ := quotesQ_len (p := p) (T := T) (inst := inst) (side := side)
  have oA := Lib.hid (allQ_ok (p := p) hOT.out inst side)
  have oQ := Lib.hid (quotesQ_ok (p := p) hOT.out inst side)
  obtain ⟨LA, eLA⟩ : ∃ l, allQ p T inst side = l := ⟨_, rfl⟩
  obtain ⟨LQ, eLQ⟩ : ∃ l, quotesQ p T inst side = l := ⟨_, rfl⟩
  rw [eLA] at H1 H2 lA oA
  rw [eLQ] at H3 H4 lQ oQ
  clear eLA eLQ hp hT hOT hi
  obtain ⟨s1, s2⟩ := hs
  have HB1 : Hid (∀ W A c, HV fQt W A LA.length LA → Calls Try.prog 12 #[.slice A LA.length c, .int .i64 side] W _) := Lib.hid (fun W A c hv => PBest14_any A LA.length c LA side W (Lib.hid hv) oA s1 s2 (by omega))
  have HB2 : Hid (∀ W A c, HV fQt W A LA.length LA → Calls Try.prog 27 #[.slice A LA.length c, .int .i64 side] W _) := Lib.hid (fun W A c hv => RBest14_any A LA.length c LA side W (Lib.hid hv) oA s1 s2 (by omega))
  have HS1 : Hid (∀ W A c, HV fQt W A LQ.length LQ → Calls Try.prog 22 #[.slice A LQ.length c, .int .i64 side] W _) := Lib.hid (fun W A c hv => PShow_any A LQ.length c LQ side W (Lib.hid hv) oQ s1 s2 (by omega))
  have HS2 : Hid (∀ W A c, HV fQt W A LQ.length LQ → Calls Try.prog 28 #[.slice A LQ.length c, .int .i64 side] W _) := Lib.hid (fun W A c hv => RShow_any A LQ.length c LQ side W (Lib.hid hv) oQ s1 s2 (by omega))
  obtain ⟨bq, ebq⟩ : ∃ z, (bestP LA side).1 = z := ⟨_, rfl⟩
  obtain ⟨bb0, ebb⟩ : ∃ z, (bestP LA side).2 = z := ⟨_, rfl⟩
  rw [ebq, ebb] at HB1 HB2
  obtain ⟨bp, bn, bi, bs, bj, bt⟩ := bq
  rw [show Qt.val ⟨bp, bn, bi, bs, bj, bt⟩ = .agg #[.int .i64 bp, .int .i64 bn, .int .i64 bi, .int .i64 bs, .int .i64 bj, .int .i64 bt] from rfl] at HB1 HB2
  obtain ⟨y1, ey1⟩ : ∃ z, (showP LQ side).1 = z := ⟨_, rfl⟩
  obtain ⟨y2, ey2⟩ : ∃ z, (showP LQ side).2.1 = z := ⟨_, rfl⟩
  obtain ⟨y3, ey3⟩ : ∃ z, (showP LQ side).2.2.1 = z := ⟨_, rfl⟩
  obtain ⟨y4, ey4⟩ : ∃ z, (showP LQ side).2.2.2 = z := ⟨_, rfl⟩
  rw [ey1, ey2, ey3, ey4] at HS1 HS2
  clear ebq ebb ey1 ey2 ey3 ey4 oA oQ
  have BWx : Hid (∀ W, Below w.heap.size w W → Below w.heap.size w W) := Lib.hid (fun W b => b)
  obtain ⟨code, A1, n1, c1, tick, low, high, wide, rule, top, least, part, A2, n2, c2, Q, R⟩ := p
  replace H1 : Hid (∀ W, Below w.heap.size w W → Calls Try.prog 14 #[.agg #[.string (str code), .slice A1 n1 c1, .int .i64 tick, .int .i64 low, .int .i64 high, .int .i64 wide, .int .i64 rule, .int .i64 top, .int .i64 least, .int .i64 part, .slice A2 n2 c2], .slice AT nT cT, .int .i64 inst, .int .i64 side] W (AnsQ W.heap.size W LA)) := H1
  replace H3 : Hid (∀ W, Below w.heap.size w W → Calls Try.prog 13 #[.agg #[.string (str code), .slice A1 n1 c1, .int .i64 tick, .int .i64 low, .int .i64 high, .int .i64 wide, .int .i64 rule, .int .i64 top, .int .i64 least, .int .i64 part, .slice A2 n2 c2], .slice AT nT cT, .int .i64 inst, .int .i64 side] W (AnsQ W.heap.size W LQ)) := H3
  replace H2 : Hid (∀ W A c, Below w.heap.size w W → HV fTp W A nT T → Calls Try.prog 24 #[.agg #[.string (str code), .slice A1 n1 c1, .int .i64 tick, .int .i64 low, .int .i64 high, .int .i64 wide, .int .i64 rule, .int .i64 top, .int .i64 least, .int .i64 part, .slice A2 n2 c2], .slice A nT c, .int .i64 inst, .int .i64 side] W (AnsQ W.heap.size W LA)) := H2
  replace H4 : Hid (∀ W A c, Below w.heap.size w W → HV fTp W A nT T → Calls Try.prog 26 #[.agg #[.string (str code), .slice A1 n1 c1, .int .i64 tick, .int .i64 low, .int .i64 high, .int .i64 wide, .int .i64 rule, .int .i64 top, .int .i64 least, .int .i64 part, .slice A2 n2 c2], .slice A nT c, .int .i64 inst, .int .i64 side] W (AnsQ W.heap.size W LQ)) := H4
  show Calls Try.prog 11 #[.agg #[.string (str code), .slice A1 n1 c1, .int .i64 tick, .int .i64 low, .int .i64 high, .int .i64 wide, .int .i64 rule, .int .i64 top, .int .i64 least, .int .i64 part, .slice A2 n2 c2], .slice AT nT cT, .int .i64 inst, .int .i64 side] w _
  obtain ⟨W0, eW0⟩ : ∃ W0, w.alloc (.cells #[.string (str code), .slice A1 n1 c1, .int .i64 tick, .int .i64 low, .int .i64 high, .int .i64 wide, .int .i64 rule, .int .i64 top, .int .i64 least, .int .i64 part, .slice A2 n2 c2] 25) = W0 := ⟨_, rfl⟩
  obtain ⟨g, eg⟩ : ∃ g, w.heap.size = g := ⟨_, rfl⟩
  have hblk0 : W0.heap[g]? = some (.cells #[.string (str code), .slice A1 n1 c1, .int .i64 tick, .int .i64 low, .int .i64 high, .int .i64 wide, .int .i64 rule, .int .i64 top, .int .i64 least, .int .i64 part, .slice A2 n2 c2] 25 (0, 0)) := by rw [← eW0, ← eg]; exact heap_alloc_new w _
  have b00 : Below w.heap.size w W0 := by rw [← eW0]; exact (Below.refl _ w).alloc (Nat.le_refl _) _
  have KK : Hid (∀ W, Below W0.heap.size W0 W → W.heap[g]? = some (.cells #[.string (str code), .slice A1 n1 c1, .int .i64 tick, .int .i64 low, .int .i64 high, .int .i64 wide, .int .i64 rule, .int .i64 top, .int .i64 least, .int .i64 part, .slice A2 n2 c2] 25 (0, 0))) := Lib.hid (fun W b => (b.block g (Array.getElem?_eq_some_iff.1 hblk0).1).trans hblk0)
  have BW : Hid (∀ W, Below W0.heap.size W0 W → Below w.heap.size w W) := Lib.hid (fun W b => b00.trans (b.mono b00.size))
  replace BWx : Hid (∀ W, Below W0.heap.size W0 W → Below w.heap.size w W) := BW
  obtain ⟨a0, a1, a2, a3, a4, a5, a6, a7, a8, a9, a10⟩ := row11 (heap_alloc_new w (.cells #[.string (str code), .slice A1 n1 c1, .int .i64 tick, .int .i64 low, .int .i64 high, .int .i64 wide, .int .i64 rule, .int .i64 top, .int .i64 least, .int .i64 part, .slice A2 n2 c2] 25))
  replace eW0 := Lib.hid eW0
  replace eg := Lib.hid eg
  clear hblk0 b00
  have B0 := Lib.hid (Below.refl W0.heap.size W0)
  go_enter Try.func11, Try.ntmps11
  go_upto_region 1 with (fail)
  rw [eW0.out, eg.out]
  clear a0 a1 a2 a3 a4 a5 a6 a7 a8 a9 a10 eW0
  obtain ⟨k0, k1, k2, k3, k4, k5, k6, k7, k8, k9, k10⟩ := row11 (KK.out _ B0.out)
  go_wp2_with fail
  refine (H1.out W0 (BW.out _ B0.out)).mono ?_
  rintro e w1 ⟨Aa, nn, ca, rfl, hv, -, -, -, -, bb⟩
  obtain rfl : nn = LA.length := hv.1.symm
  have B1 := Lib.hid (below_up B0.out bb)
  have Ha : Hid (∀ W, Below w1.heap.size w1 W → HV fQt W Aa LA.length LA) := Lib.hid (fun W b => hv.below b)
  have bs1 : Hid (∀ W, Below w1.heap.size w1 W → Below W0.heap.size W0 W) := Lib.hid (fun W b => below_up bb b)
  clear k0 k1 k2 k3 k4 k5 k6 k7 k8 k9 k10 hv bb
  have hSof : Hid (∀ W W' : World, (fun W : World => W.cell? ⟨g, 0, none⟩ = some (.string (str code)) ∧ W.cell? ⟨g, 1, none⟩ = some (.slice A1 n1 c1) ∧ W.cell? ⟨g, 2, none⟩ = some (.int .i64 tick) ∧ W.cell? ⟨g, 3, none⟩ = some (.int .i64 low) ∧ W.cell? ⟨g, 4, none⟩ = some (.int .i64 high) ∧ W.cell? ⟨g, 5, none⟩ = some (.int .i64 wide) ∧ W.cell? ⟨g, 6, none⟩ = some (.int .i64 rule) ∧ W.cell? ⟨g, 7, none⟩ = some (.int .i64 top) ∧ W.cell? ⟨g, 8, none⟩ = some (.int .i64 least) ∧ W.cell? ⟨g, 9, none⟩ = some (.int .i64 part) ∧ W.cell? ⟨g, 10, none⟩ = some (.slice A2 n2 c2) ∧ Below w1.heap.size w1 W) W → Below W.heap.size W W' → (fun W : World => W.cell? ⟨g, 0, none⟩ = some (.string (str code)) ∧ W.cell? ⟨g, 1, none⟩ = some (.slice A1 n1 c1) ∧ W.cell? ⟨g, 2, none⟩ = some (.int .i64 tick) ∧ W.cell? ⟨g, 3, none⟩ = some (.int .i64 low) ∧ W.cell? ⟨g, 4, none⟩ = some (.int .i64 high) ∧ W.cell? ⟨g, 5, none⟩ = some (.int .i64 wide) ∧ W.cell? ⟨g, 6, none⟩ = some (.int .i64 rule) ∧ W.cell? ⟨g, 7, none⟩ = some (.int .i64 top) ∧ W.cell? ⟨g, 8, none⟩ = some (.int .i64 least) ∧ W.cell? ⟨g, 9, none⟩ = some (.int .i64 part) ∧ W.cell? ⟨g, 10, none⟩ = some (.slice A2 n2 c2) ∧ Below w1.heap.size w1 W) W') := Lib.hid (fun W W' hs b => ⟨(b.cell (World.block_lt_of_cell? W _ hs.1)).trans hs.1, (b.cell (World.block_lt_of_cell? W _ hs.2.1)).trans hs.2.1, (b.cell (World.block_lt_of_cell? W _ hs.2.2.1)).trans hs.2.2.1, (b.cell (World.block_lt_of_cell? W _ hs.2.2.2.1)).trans hs.2.2.2.1, (b.cell (World.block_lt_of_cell? W _ hs.2.2.2.2.1)).trans hs.2.2.2.2.1, (b.cell (World.block_lt_of_cell? W _ hs.2.2.2.2.2.1)).trans hs.2.2.2.2.2.1, (b.cell (World.block_lt_of_cell? W _ hs.2.2.2.2.2.2.1)).trans hs.2.2.2.2.2.2.1, (b.cell (World.block_lt_of_cell? W _ hs.2.2.2.2.2.2.2.1)).trans hs.2.2.2.2.2.2.2.1, (b.cell (World.block_lt_of_cell? W _ hs.2.2.2.2.2.2.2.2.1)).trans hs.2.2.2.2.2.2.2.2.1, (b.cell (World.block_lt_of_cell? W _ hs.2.2.2.2.2.2.2.2.2.1)).trans hs.2.2.2.2.2.2.2.2.2.1, (b.cell (World.block_lt_of_cell? W _ hs.2.2.2.2.2.2.2.2.2.2.1)).trans hs.2.2.2.2.2.2.2.2.2.2.1, hs.2.2.2.2.2.2.2.2.2.2.2.trans (b.mono hs.2.2.2.2.2.2.2.2.2.2.2.size)⟩)
  obtain ⟨k0, k1, k2, k3, k4, k5, k6, k7, k8, k9, k10⟩ := row11 (KK.out _ B1.out)
  have z0 : (fun W : World => W.cell? ⟨g, 0, none⟩ = some (.string (str code)) ∧ W.cell? ⟨g, 1, none⟩ = some (.slice A1 n1 c1) ∧ W.cell? ⟨g, 2, none⟩ = some (.int .i64 tick) ∧ W.cell? ⟨g, 3, none⟩ = some (.int .i64 low) ∧ W.cell? ⟨g, 4, none⟩ = some (.int .i64 high) ∧ W.cell? ⟨g, 5, none⟩ = some (.int .i64 wide) ∧ W.cell? ⟨g, 6, none⟩ = some (.int .i64 rule) ∧ W.cell? ⟨g, 7, none⟩ = some (.int .i64 top) ∧ W.cell? ⟨g, 8, none⟩ = some (.int .i64 least) ∧ W.cell? ⟨g, 9, none⟩ = some (.int .i64 part) ∧ W.cell? ⟨g, 10, none⟩ = some (.slice A2 n2 c2) ∧ Below w1.heap.size w1 W) w1.drew := ⟨k0, k1, k2, k3, k4, k5, k6, k7, k8, k9, k10, (Below.refl _ w1).drew⟩
  clear k0 k1 k2 k3 k4 k5 k6 k7 k8 k9 k10
  go_upto_region 2 with (fail)
  refine wp_region_held_drew (S := (fun W : World => W.cell? ⟨g, 0, none⟩ = some (.string (str code)) ∧ W.cell? ⟨g, 1, none⟩ = some (.slice A1 n1 c1) ∧ W.cell? ⟨g, 2, none⟩ = some (.int .i64 tick) ∧ W.cell? ⟨g, 3, none⟩ = some (.int .i64 low) ∧ W.cell? ⟨g, 4, none⟩ = some (.int .i64 high) ∧ W.cell? ⟨g, 5, none⟩ = some (.int .i64 wide) ∧ W.cell? ⟨g, 6, none⟩ = some (.int .i64 rule) ∧ W.cell? ⟨g, 7, none⟩ = some (.int .i64 top) ∧ W.cell? ⟨g, 8, none⟩ = some (.int .i64 least) ∧ W.cell? ⟨g, 9, none⟩ = some (.int .i64 part) ∧ W.cell? ⟨g, 10, none⟩ = some (.slice A2 n2 c2) ∧ Below w1.heap.size w1 W)) (by kernel_rfl) z0 (fun hHeld => ?_)
  refine wpAnyH_take (i := 0) (v := .agg #[.string (str code), .slice A1 n1 c1, .int .i64 tick, .int .i64 low, .int .i64 high, .int .i64 wide, .int .i64 rule, .int .i64 top, .int .i64 least, .int .i64 part, .slice A2 n2 c2]) rfl (by kernel_rfl) (by kernel_rfl) (by kernel_rfl) (fun _ _ _ h => h) (Or.inl ⟨by kernel_rfl, fun W hSw => ?_⟩) (by assumption) ?_
  · (try dsimp only at hSw)
    go_simp
  (try simp only [Act.put, List.setIfInBounds_toArray, List.set_cons_zero, List.set_cons_succ])
  refine wpAnyH_take (i := 1) (v := .slice AT nT cT) rfl (by kernel_rfl) (by kernel_rfl) (by kernel_rfl) (fun _ _ _ h => h) (Or.inl ⟨by kernel_rfl, fun W hSw => ?_⟩) (by assumption) ?_
  · (try dsimp only at hSw)
    go_simp
  (try simp only [Act.put, List.setIfInBounds_toArray, List.set_cons_zero, List.set_cons_succ])
  refine wpAnyH_take (i := 3) (v := .int .i64 inst) rfl (by kernel_rfl) (by kernel_rfl) (by kernel_rfl) (fun _ _ _ h => h) (Or.inl ⟨by kernel_rfl, fun W hSw => ?_⟩) (by assumption) ?_
  · (try dsimp only at hSw)
    go_simp
  (try simp only [Act.put, List.setIfInBounds_toArray, List.set_cons_zero, List.set_cons_succ])
  refine wpAnyH_take (i := 4) (v := .int .i64 side) rfl (by kernel_rfl) (by kernel_rfl) (by kernel_rfl) (fun _ _ _ h => h) (Or.inl ⟨by kernel_rfl, fun W hSw => ?_⟩) (by assumption) ?_
  · (try dsimp only at hSw)
    go_simp
  (try simp only [Act.put, List.setIfInBounds_toArray, List.set_cons_zero, List.set_cons_succ])
  refine wpAnyH_ready (rs := [2]) (by kernel_rfl) (by simp) ?_
  refine AllReadyH.cons rfl (fun K hK => ?_) AllReadyH.nil
  go_simp
  refine (HI.out w1.drew ((BWx.out w1 B1.out).drew)).mono ?_
  rintro e wi ⟨vi, rfl, ri, bi⟩
  obtain ⟨AI, cI, rfl, hI, -, -, -, -⟩ := ri.slice
  have zi := hSof.out _ _ z0 bi
  rw [hTl.out] at hI ⊢
  clear ri
  go_wp2_with fail
  refine hK.out _ _ zi (fun hHeld => ?_)
  clear hK K
  (try simp only [Act.put, List.setIfInBounds_toArray, List.set_cons_zero, List.set_cons_succ])
  refine wpAnyH_ready (rs := [5]) (by kernel_rfl) (by simp) ?_
  refine AllReadyH.cons rfl (fun K hK => ?_) AllReadyH.nil
  go_simp
  refine (H2.out wi AI cI ((BWx.out w1 B1.out).drew.trans (bi.mono ((BWx.out w1 B1.out).drew).size)) hI).mono ?_
  rintro e w2 ⟨Ab, nb, cb, rfl, hv, -, -, -, -, bb⟩
  have z5 := hSof.out _ _ zi bb
  obtain rfl : nb = LA.length := hv.1.symm
  clear hI
  go_wp2_with fail
  refine hK.out _ _ z5 (fun hHeld => ?_)
  clear hK K
  (try simp only [Act.put, List.setIfInBounds_toArray, List.set_cons_zero, List.set_cons_succ])
  refine wpAnyH_take (i := 6) (v := .slice Ab LA.length cb) rfl (by kernel_rfl) (by kernel_rfl) (by kernel_rfl) (fun _ _ _ h => h) (Or.inl ⟨by kernel_rfl, fun W hSw => ?_⟩) (by assumption) ?_
  · (try dsimp only at hSw)
    go_simp
  (try simp only [Act.put, List.setIfInBounds_toArray, List.set_cons_zero, List.set_cons_succ])
  refine wpAnyH_done (by kernel_rfl) ?_ _
  (try simp only [List.getElem_toArray, List.getElem_cons_succ, List.getElem_cons_zero, Act.put, List.setIfInBounds_toArray, List.set_cons_zero, List.set_cons_succ])
  have B2 := Lib.hid (B1.out.trans ((show Below w1.heap.size w1 w2 from z5.2.2.2.2.2.2.2.2.2.2.2).mono B1.out.size))
  have Hb : Hid (∀ W, Below w2.heap.size w2 W → HV fQt W Ab LA.length LA) := Lib.hid (fun W b => hv.below b)
  have bs2 : Hid (∀ W, Below w2.heap.size w2 W → Below w1.heap.size w1 W) := Lib.hid (fun W b => below_up (show Below w1.heap.size w1 w2 from z5.2.2.2.2.2.2.2.2.2.2.2) b)
  clear hHeld z0 zi z5 bi hSof hv bb
  obtain ⟨k0, k1, k2, k3, k4, k5, k6, k7, k8, k9, k10⟩ := row11 (KK.out _ B2.out)
  go_wp2_with fail
  refine (H3.out w2 (BW.out _ B2.out)).mono ?_
  rintro e w3 ⟨Ac, nn, cc, rfl, hv, -, -, -, -, bb⟩
  obtain rfl : nn = LQ.length := hv.1.symm
  have B3 := Lib.hid (below_up B2.out bb)
  have Hc : Hid (∀ W, Below w3.heap.size w3 W → HV fQt W Ac LQ.length LQ) := Lib.hid (fun W b => hv.below b)
  have bs3 : Hid (∀ W, Below w3.heap.size w3 W → Below w2.heap.size w2 W) := Lib.hid (fun W b => below_up bb b)
  clear k0 k1 k2 k3 k4 k5 k6 k7 k8 k9 k10 hv bb
  have hSof : Hid (∀ W W' : World, (fun W : World => W.cell? ⟨g, 0, none⟩ = some (.string (str code)) ∧ W.cell? ⟨g, 1, none⟩ = some (.slice A1 n1 c1) ∧ W.cell? ⟨g, 2, none⟩ = some (.int .i64 tick) ∧ W.cell? ⟨g, 3, none⟩ = some (.int .i64 low) ∧ W.cell? ⟨g, 4, none⟩ = some (.int .i64 high) ∧ W.cell? ⟨g, 5, none⟩ = some (.int .i64 wide) ∧ W.cell? ⟨g, 6, none⟩ = some (.int .i64 rule) ∧ W.cell? ⟨g, 7, none⟩ = some (.int .i64 top) ∧ W.cell? ⟨g, 8, none⟩ = some (.int .i64 least) ∧ W.cell? ⟨g, 9, none⟩ = some (.int .i64 part) ∧ W.cell? ⟨g, 10, none⟩ = some (.slice A2 n2 c2) ∧ Below w3.heap.size w3 W) W → Below W.heap.size W W' → (fun W : World => W.cell? ⟨g, 0, none⟩ = some (.string (str code)) ∧ W.cell? ⟨g, 1, none⟩ = some (.slice A1 n1 c1) ∧ W.cell? ⟨g, 2, none⟩ = some (.int .i64 tick) ∧ W.cell? ⟨g, 3, none⟩ = some (.int .i64 low) ∧ W.cell? ⟨g, 4, none⟩ = some (.int .i64 high) ∧ W.cell? ⟨g, 5, none⟩ = some (.int .i64 wide) ∧ W.cell? ⟨g, 6, none⟩ = some (.int .i64 rule) ∧ W.cell? ⟨g, 7, none⟩ = some (.int .i64 top) ∧ W.cell? ⟨g, 8, none⟩ = some (.int .i64 least) ∧ W.cell? ⟨g, 9, none⟩ = some (.int .i64 part) ∧ W.cell? ⟨g, 10, none⟩ = some (.slice A2 n2 c2) ∧ Below w3.heap.size w3 W) W') := Lib.hid (fun W W' hs b => ⟨(b.cell (World.block_lt_of_cell? W _ hs.1)).trans hs.1, (b.cell (World.block_lt_of_cell? W _ hs.2.1)).trans hs.2.1, (b.cell (World.block_lt_of_cell? W _ hs.2.2.1)).trans hs.2.2.1, (b.cell (World.block_lt_of_cell? W _ hs.2.2.2.1)).trans hs.2.2.2.1, (b.cell (World.block_lt_of_cell? W _ hs.2.2.2.2.1)).trans hs.2.2.2.2.1, (b.cell (World.block_lt_of_cell? W _ hs.2.2.2.2.2.1)).trans hs.2.2.2.2.2.1, (b.cell (World.block_lt_of_cell? W _ hs.2.2.2.2.2.2.1)).trans hs.2.2.2.2.2.2.1, (b.cell (World.block_lt_of_cell? W _ hs.2.2.2.2.2.2.2.1)).trans hs.2.2.2.2.2.2.2.1, (b.cell (World.block_lt_of_cell? W _ hs.2.2.2.2.2.2.2.2.1)).trans hs.2.2.2.2.2.2.2.2.1, (b.cell (World.block_lt_of_cell? W _ hs.2.2.2.2.2.2.2.2.2.1)).trans hs.2.2.2.2.2.2.2.2.2.1, (b.cell (World.block_lt_of_cell? W _ hs.2.2.2.2.2.2.2.2.2.2.1)).trans hs.2.2.2.2.2.2.2.2.2.2.1, hs.2.2.2.2.2.2.2.2.2.2.2.trans (b.mono hs.2.2.2.2.2.2.2.2.2.2.2.size)⟩)
  obtain ⟨k0, k1, k2, k3, k4, k5, k6, k7, k8, k9, k10⟩ := row11 (KK.out _ B3.out)
  have z0 : (fun W : World => W.cell? ⟨g, 0, none⟩ = some (.string (str code)) ∧ W.cell? ⟨g, 1, none⟩ = some (.slice A1 n1 c1) ∧ W.cell? ⟨g, 2, none⟩ = some (.int .i64 tick) ∧ W.cell? ⟨g, 3, none⟩ = some (.int .i64 low) ∧ W.cell? ⟨g, 4, none⟩ = some (.int .i64 high) ∧ W.cell? ⟨g, 5, none⟩ = some (.int .i64 wide) ∧ W.cell? ⟨g, 6, none⟩ = some (.int .i64 rule) ∧ W.cell? ⟨g, 7, none⟩ = some (.int .i64 top) ∧ W.cell? ⟨g, 8, none⟩ = some (.int .i64 least) ∧ W.cell? ⟨g, 9, none⟩ = some (.int .i64 part) ∧ W.cell? ⟨g, 10, none⟩ = some (.slice A2 n2 c2) ∧ Below w3.heap.size w3 W) w3.drew := ⟨k0, k1, k2, k3, k4, k5, k6, k7, k8, k9, k10, (Below.refl _ w3).drew⟩
  clear k0 k1 k2 k3 k4 k5 k6 k7 k8 k9 k10
  go_upto_region 4 with (fail)
  refine wp_region_held_drew (S := (fun W : World => W.cell? ⟨g, 0, none⟩ = some (.string (str code)) ∧ W.cell? ⟨g, 1, none⟩ = some (.slice A1 n1 c1) ∧ W.cell? ⟨g, 2, none⟩ = some (.int .i64 tick) ∧ W.cell? ⟨g, 3, none⟩ = some (.int .i64 low) ∧ W.cell? ⟨g, 4, none⟩ = some (.int .i64 high) ∧ W.cell? ⟨g, 5, none⟩ = some (.int .i64 wide) ∧ W.cell? ⟨g, 6, none⟩ = some (.int .i64 rule) ∧ W.cell? ⟨g, 7, none⟩ = some (.int .i64 top) ∧ W.cell? ⟨g, 8, none⟩ = some (.int .i64 least) ∧ W.cell? ⟨g, 9, none⟩ = some (.int .i64 part) ∧ W.cell? ⟨g, 10, none⟩ = some (.slice A2 n2 c2) ∧ Below w3.heap.size w3 W)) (by kernel_rfl) z0 (fun hHeld => ?_)
  refine wpAnyH_take (i := 0) (v := .agg #[.string (str code), .slice A1 n1 c1, .int .i64 tick, .int .i64 low, .int .i64 high, .int .i64 wide, .int .i64 rule, .int .i64 top, .int .i64 least, .int .i64 part, .slice A2 n2 c2]) rfl (by kernel_rfl) (by kernel_rfl) (by kernel_rfl) (fun _ _ _ h => h) (Or.inl ⟨by kernel_rfl, fun W hSw => ?_⟩) (by assumption) ?_
  · (try dsimp only at hSw)
    go_simp
  (try simp only [Act.put, List.setIfInBounds_toArray, List.set_cons_zero, List.set_cons_succ])
  refine wpAnyH_take (i := 1) (v := .slice AT nT cT) rfl (by kernel_rfl) (by kernel_rfl) (by kernel_rfl) (fun _ _ _ h => h) (Or.inl ⟨by kernel_rfl, fun W hSw => ?_⟩) (by assumption) ?_
  · (try dsimp only at hSw)
    go_simp
  (try simp only [Act.put, List.setIfInBounds_toArray, List.set_cons_zero, List.set_cons_succ])
  refine wpAnyH_take (i := 3) (v := .int .i64 inst) rfl (by kernel_rfl) (by kernel_rfl) (by kernel_rfl) (fun _ _ _ h => h) (Or.inl ⟨by kernel_rfl, fun W hSw => ?_⟩) (by assumption) ?_
  · (try dsimp only at hSw)
    go_simp
  (try simp only [Act.put, List.setIfInBounds_toArray, List.set_cons_zero, List.set_cons_succ])
  refine wpAnyH_take (i := 4) (v := .int .i64 side) rfl (by kernel_rfl) (by kernel_rfl) (by kernel_rfl) (fun _ _ _ h => h) (Or.inl ⟨by kernel_rfl, fun W hSw => ?_⟩) (by assumption) ?_
  · (try dsimp only at hSw)
    go_simp
  (try simp only [Act.put, List.setIfInBounds_toArray, List.set_cons_zero, List.set_cons_succ])
  refine wpAnyH_ready (rs := [2]) (by kernel_rfl) (by simp) ?_
  refine AllReadyH.cons rfl (fun K hK => ?_) AllReadyH.nil
  go_simp
  refine (HI.out w3.drew ((BWx.out w3 B3.out).drew)).mono ?_
  rintro e wi ⟨vi, rfl, ri, bi⟩
  obtain ⟨AI, cI, rfl, hI, -, -, -, -⟩ := ri.slice
  have zi := hSof.out _ _ z0 bi
  rw [hTl.out] at hI ⊢
  clear ri
  go_wp2_with fail
  refine hK.out _ _ zi (fun hHeld => ?_)
  clear hK K
  (try simp only [Act.put, List.setIfInBounds_toArray, List.set_cons_zero, List.set_cons_succ])
  refine wpAnyH_ready (rs := [5]) (by kernel_rfl) (by simp) ?_
  refine AllReadyH.cons rfl (fun K hK => ?_) AllReadyH.nil
  go_simp
  refine (H4.out wi AI cI ((BWx.out w3 B3.out).drew.trans (bi.mono ((BWx.out w3 B3.out).drew).size)) hI).mono ?_
  rintro e w4 ⟨Ad, nd, cd, rfl, hv, -, -, -, -, bb⟩
  have z5 := hSof.out _ _ zi bb
  obtain rfl : nd = LQ.length := hv.1.symm
  clear hI
  go_wp2_with fail
  refine hK.out _ _ z5 (fun hHeld => ?_)
  clear hK K
  (try simp only [Act.put, List.setIfInBounds_toArray, List.set_cons_zero, List.set_cons_succ])
  refine wpAnyH_take (i := 6) (v := .slice Ad LQ.length cd) rfl (by kernel_rfl) (by kernel_rfl) (by kernel_rfl) (fun _ _ _ h => h) (Or.inl ⟨by kernel_rfl, fun W hSw => ?_⟩) (by assumption) ?_
  · (try dsimp only at hSw)
    go_simp
  (try simp only [Act.put, List.setIfInBounds_toArray, List.set_cons_zero, List.set_cons_succ])
  refine wpAnyH_done (by kernel_rfl) ?_ _
  (try simp only [List.getElem_toArray, List.getElem_cons_succ, List.getElem_cons_zero, Act.put, List.setIfInBounds_toArray, List.set_cons_zero, List.set_cons_succ])
  have B4 := Lib.hid (B3.out.trans ((show Below w3.heap.size w3 w4 from z5.2.2.2.2.2.2.2.2.2.2.2).mono B3.out.size))
  have Hd : Hid (∀ W, Below w4.heap.size w4 W → HV fQt W Ad LQ.length LQ) := Lib.hid (fun W b => hv.below b)
  have bs4 : Hid (∀ W, Below w4.heap.size w4 W → Below w3.heap.size w3 W) := Lib.hid (fun W b => below_up (show Below w3.heap.size w3 w4 from z5.2.2.2.2.2.2.2.2.2.2.2) b)
  clear hHeld z0 zi z5 bi hSof hv bb
  have ha4 := Lib.hid (Ha.out w4 (bs2.out _ (bs3.out _ (bs4.out _ (Below.refl _ _)))))
  have hb4 := Lib.hid (Hb.out w4 (bs3.out _ (bs4.out _ (Below.refl _ _))))
  have hc4 := Lib.hid (Hc.out w4 (bs4.out _ (Below.refl _ _)))
  have hd4 := Lib.hid (Hd.out w4 (Below.refl _ _))
  clear Ha Hb Hc Hd bs1 bs2 bs3 bs4 H1 H2 H3 H4 HI KK
  go_wp2_with fail
  refine (HB1.out w4 Aa ca ha4.out).mono ?_
  rintro e w5 ⟨rfl, bb⟩
  obtain ⟨gx, egx⟩ : ∃ x, w5.heap.size = x := ⟨_, rfl⟩
  obtain ⟨w6, e6⟩ : ∃ W, w5.alloc (.cells #[.int .i64 bp, .int .i64 bn, .int .i64 bi, .int .i64 bs, .int .i64 bj, .int .i64 bt] 37) = W := ⟨_, rfl⟩
  have hgx : w6.heap[gx]? = some (.cells #[.int .i64 bp, .int .i64 bn, .int .i64 bi, .int .i64 bs, .int .i64 bj, .int .i64 bt] 37 (0, 0)) := by rw [← e6, ← egx]; exact heap_alloc_new w5 _
  have b46 : Below w4.heap.size w4 w6 := by rw [← e6]; exact bb.alloc bb.size _
  have B6 := Lib.hid (below_up B4.out b46)
  have hb6 := Lib.hid (hb4.out.below b46)
  have hKx : Hid (∀ W, Below w6.heap.size w6 W → W.heap[gx]? = some (.cells #[.int .i64 bp, .int .i64 bn, .int .i64 bi, .int .i64 bs, .int .i64 bj, .int .i64 bt] 37 (0, 0))) := Lib.hid (fun W b => (b.block gx (Array.getElem?_eq_some_iff.1 hgx).1).trans hgx)
  have b46' : Hid (∀ W, Below w6.heap.size w6 W → Below w4.heap.size w4 W) := Lib.hid (fun W b => below_up b46 b)
  replace e6 := Lib.hid e6
  replace egx := Lib.hid egx
  clear hgx b46 bb HB1
  go_upto_region 6 with (fail)
  rw [e6.out, egx.out]
  clear e6 egx
  go_wp2_with fail
  refine (HB2.out w6 Ab cb hb6.out).mono ?_
  rintro e w7 ⟨rfl, bb⟩
  obtain ⟨gy, egy⟩ : ∃ x, w7.heap.size = x := ⟨_, rfl⟩
  obtain ⟨w8, e8⟩ : ∃ W, w7.alloc (.cells #[.int .i64 bp, .int .i64 bn, .int .i64 bi, .int .i64 bs, .int .i64 bj, .int .i64 bt] 64) = W := ⟨_, rfl⟩
  have hgy : w8.heap[gy]? = some (.cells #[.int .i64 bp, .int .i64 bn, .int .i64 bi, .int .i64 bs, .int .i64 bj, .int .i64 bt] 64 (0, 0)) := by rw [← e8, ← egy]; exact heap_alloc_new w7 _
  have b68 : Below w6.heap.size w6 w8 := by rw [← e8]; exact bb.alloc bb.size _
  have B8 := Lib.hid (below_up B6.out b68)
  have hc8 := Lib.hid (hc4.out.below (b46'.out _ b68))
  have hKx8 : Hid (∀ W, Below w8.heap.size w8 W → W.heap[gx]? = some (.cells #[.int .i64 bp, .int .i64 bn, .int .i64 bi, .int .i64 bs, .int .i64 bj, .int .i64 bt] 37 (0, 0))) := Lib.hid (fun W b => hKx.out W (below_up b68 b))
  have hKy8 : Hid (∀ W, Below w8.heap.size w8 W → W.heap[gy]? = some (.cells #[.int .i64 bp, .int .i64 bn, .int .i64 bi, .int .i64 bs, .int .i64 bj, .int .i64 bt] 64 (0, 0))) := Lib.hid (fun W b => (b.block gy (Array.getElem?_eq_some_iff.1 hgy).1).trans hgy)
  have b48 : Hid (∀ W, Below w8.heap.size w8 W → Below w4.heap.size w4 W) := Lib.hid (fun W b => b46'.out W (below_up b68 b))
  replace e8 := Lib.hid e8
  replace egy := Lib.hid egy
  clear hgy b68 bb HB2 hKx b46' hb6
  go_upto_region 7 with (fail)
  rw [e8.out, egy.out]
  clear e8 egy
  go_wp2_with fail
  refine (HS1.out w8 Ac cc hc8.out).mono ?_
  rintro e w9 ⟨rfl, b9⟩
  have B9 := Lib.hid (below_up B8.out b9)
  have hd9 := Lib.hid (hd4.out.below (b48.out _ b9))
  replace b9 := Lib.hid b9
  clear HS1 hc8
  go_wp2_with fail
  refine (HS2.out w9 Ad cd hd9.out).mono ?_
  rintro e wa ⟨rfl, ba⟩
  have b8a := Lib.hid (below_up b9.out ba)
  have Ba := Lib.hid (below_up B9.out ba)
  clear HS2 hd9 ba b9
  have HM1 := Lib.hid (Same14_yes Aa Ab LA.length ca cb LA wa (by omega) (Lib.hid (ha4.out.below (b48.out _ b8a.out))) (Lib.hid (hb4.out.below (b48.out _ b8a.out))))
  go_wp2_with fail
  refine HM1.out.mono ?_
  rintro e wb ⟨rfl, bb⟩
  have b8b := Lib.hid (below_up b8a.out bb)
  have Bb := Lib.hid (below_up Ba.out bb)
  clear HM1 bb
  have HM1 := Lib.hid (Same14_yes Ac Ad LQ.length cc cd LQ wb (by omega) (Lib.hid (hc4.out.below (b48.out _ b8b.out))) (Lib.hid (hd4.out.below (b48.out _ b8b.out))))
  go_wp2_with fail
  refine HM1.out.mono ?_
  rintro e wc ⟨rfl, bb⟩
  have b8c := Lib.hid (below_up b8b.out bb)
  have Bc := Lib.hid (below_up Bb.out bb)
  obtain ⟨x0, x1, x2, x3, x4, x5⟩ := row6 (hKx8.out _ b8c.out)
  obtain ⟨v0, v1, v2, v3, v4, v5⟩ := row6 (hKy8.out _ b8c.out)
  clear HM1 bb
  have HM1 := Lib.hid (Quote_yes bp bn bi bs bj bt wc)
  go_wp2_with fail
  refine HM1.out.mono ?_
  rintro e wd ⟨rfl, bb⟩
  have Bd := Lib.hid (below_up Bc.out bb)
  clear HM1 bb x0 x1 x2 x3 x4 x5 v0 v1 v2 v3 v4 v5
  have q1 : (y1 == y1) = true := by simp
  have q2 : (y2 == y2) = true := by simp
  have q3 : (y3 == y3) = true := by simp
  have q4 : (y4 == y4) = true := by simp
  have q5 : (bb0 == bb0) = true := by simp
  go_wp2_with fail
  go_ret
  exact ⟨by simp, BW.out _ Bd.out⟩
end Go.Proofs.Ytdeofifidjbolaa
