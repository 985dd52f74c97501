/-
  The program's quote of two legs: quote.
-/
import Derived.Test.YtdeofifidjbolaaIpLeaf
import Derived.Lib.MinMax
namespace Go.Proofs.Ytdeofifidjbolaa
open Go.RowKit
set_option linter.unusedVariables false
set_option linter.unusedSimpArgs false

theorem build_nopq : ∀ W : World, (Instr.build 37 #[]).run Try.prog W = .ok (.agg #[.int .i64 0, .int .i64 0, .int .i64 0, .int .i64 0, .int .i64 0, .int .i64 0]) W := fun W => by kernel_rfl
theorem build_pquote (p n a sa b sb : Int) : ∀ W : World, (Instr.build 37 #[(0, .int .i64 p), (1, .int .i64 n), (2, .agg #[.int .i64 a, .int .i64 sa, .int .i64 b, .int .i64 sb])]).run Try.prog W = .ok (.agg #[.int .i64 p, .int .i64 n, .int .i64 a, .int .i64 sa, .int .i64 b, .int .i64 sb]) W := fun W => by kernel_rfl
theorem quad_cells {W : World} {g : Nat} {T : TypeId} {x0 x1 x2 x3 : Value} (h : W.heap[g]? = some (.cells #[x0, x1, x2, x3] T (0, 0))) : W.cell? ⟨g, 0, none⟩ = some x0 ∧ W.cell? ⟨g, 1, none⟩ = some x1 ∧ W.cell? ⟨g, 2, none⟩ = some x2 ∧ W.cell? ⟨g, 3, none⟩ = some x3 := by
  refine ⟨?_, ?_, ?_, ?_⟩ <;> (rw [Lib.cell_of_heap h]; rfl)
/-- How two legs' prices go together for a side. -/
def howV (sa sb side : Int) : Int := if sa = sb then 1 else if sa = side then -1 else 0
theorem net_leg (sa sb side u v : Int) : netV sa sb side u v = legPrice u v (howV sa sb side) := by
  unfold netV legPrice howV
  by_cases h : sa = sb
  · rw [if_pos h, if_pos h]; rfl
  · rw [if_neg h, if_neg h]
    by_cases k : sa = side
    · rw [if_pos k, if_pos k]; rfl
    · rw [if_neg k, if_neg k]; rfl
/-- The quote of two legs, or none. -/
def legsO (T : List Tp) (a sa b sb side : Int) : Option Qt := joinO (topAt T a) (topAt T b) a sa b sb (howV sa sb side)
set_option maxRecDepth 100000 in
set_option maxHeartbeats 8000000 in
theorem PQuote_any (AT : Option Addr) (nT cT : Nat) (T : List Tp) (a ka b kb : Nat) (side : Int) (w : World) (hT : Hid (HV fTp w AT nT T)) (hOT : Hid (OkT T)) (ha : a < nT) (hka : ka < 2) (hb : b < nT) (hkb : kb < 2) (hnT : nT ≤ 1000) :
    Calls Try.prog 34 #[.slice AT nT cT, .agg #[.int .i64 (a : Int), .int .i64 ((ka : Int) + 1), .int .i64 (b : Int), .int .i64 ((kb : Int) + 1)], .int .i64 side] w fun e w' => e = .returned (.tuple #[((legsO T (a : Int) ((ka : Int) + 1) (b : Int) ((kb : Int) + 1) side).getD ⟨0, 0, 0, 0, 0, 0⟩).val, .bool (legsO T (a : Int) ((ka : Int) + 1) (b : Int) ((kb : Int) + 1) side).isSome]) ∧ Below w.heap.size w w' := by
  have hJ := joinO_case (topAt T (a : Int)) (topAt T (b : Int)) (a : Int) ((ka : Int) + 1) (b : Int) ((kb : Int) + 1) (howV ((ka : Int) + 1) ((kb : Int) + 1) side)
  have hxo := topAt_ok hOT.out (a : Int)
  have hyo := topAt_ok hOT.out (b : Int)
  have hJe : legsO T (a : Int) ((ka : Int) + 1) (b : Int) ((kb : Int) + 1) side = joinO (topAt T (a : Int)) (topAt T (b : Int)) (a : Int) ((ka : Int) + 1) (b : Int) ((kb : Int) + 1) (howV ((ka : Int) + 1) ((kb : Int) + 1) side) := rfl
  rw [hJe]
  obtain ⟨J, eJ⟩ : ∃ J, joinO (topAt T (a : Int)) (topAt T (b : Int)) (a : Int) ((ka : Int) + 1) (b : Int) ((kb : Int) + 1) (howV ((ka : Int) + 1) ((kb : Int) + 1) side) = J := ⟨_, rfl⟩
  rw [eJ] at hJ ⊢
  clear hJe eJ
  have HX : Hid (∀ W, Below w.heap.size w W → Calls Try.prog 53 #[.slice AT nT cT, .agg #[.int .i64 (a : Int), .int .i64 ((ka : Int) + 1)]] W _) := Lib.hid (fun W bw => Offer_any AT nT cT T a ka W (Lib.hid (hT.out.below bw)) ha hka hnT)
  have HY : Hid (∀ W, Below w.heap.size w W → Calls Try.prog 53 #[.slice AT nT cT, .agg #[.int .i64 (b : Int), .int .i64 ((kb : Int) + 1)]] W _) := Lib.hid (fun W bw => Offer_any AT nT cT T b kb W (Lib.hid (hT.out.below bw)) hb hkb hnT)
  obtain ⟨x, ex⟩ : ∃ x, topAt T (a : Int) = x := ⟨_, rfl⟩
  obtain ⟨y, ey⟩ : ∃ y, topAt T (b : Int) = y := ⟨_, rfl⟩
  rw [ex] at hJ hxo HX
  rw [ey] at hJ hyo HY
  clear ex ey hT hOT
  have iux := hxo.priceS ((ka : Int) + 1)
  have iuy := hyo.priceS ((kb : Int) + 1)
  have ivx := hxo.qtyS ((ka : Int) + 1)
  have ivy := hyo.qtyS ((kb : Int) + 1)
  obtain ⟨bx, ebx⟩ : ∃ v, x.has ((ka : Int) + 1) = v := ⟨_, rfl⟩
  obtain ⟨by', eby⟩ : ∃ v, y.has ((kb : Int) + 1) = v := ⟨_, rfl⟩
  obtain ⟨u, eu⟩ : ∃ v, x.price ((ka : Int) + 1) = v := ⟨_, rfl⟩
  obtain ⟨v, ev⟩ : ∃ v, y.price ((kb : Int) + 1) = v := ⟨_, rfl⟩
  obtain ⟨qx, eqx⟩ : ∃ v, x.qty ((ka : Int) + 1) = v := ⟨_, rfl⟩
  obtain ⟨qy, eqy⟩ : ∃ v, y.qty ((kb : Int) + 1) = v := ⟨_, rfl⟩
  rw [ebx, eu, eqx] at HX
  rw [eby, ev, eqy] at HY
  rw [ebx, eby, eu, ev, eqx, eqy] at hJ
  rw [eu] at iux
  rw [ev] at iuy
  rw [eqx] at ivx
  rw [eqy] at ivy
  clear ebx eby eu ev eqx eqy hxo hyo x y
  rw [← net_leg] at hJ
  have HNt : Hid (∀ W, Calls Try.prog 54 #[.agg #[.int .i64 (a : Int), .int .i64 ((ka : Int) + 1), .int .i64 (b : Int), .int .i64 ((kb : Int) + 1)], .int .i64 u, .int .i64 v, .int .i64 side] W _) := Lib.hid (fun W => Net_any (a : Int) ((ka : Int) + 1) (b : Int) ((kb : Int) + 1) u v side W iux iuy)
  obtain ⟨pz, epz⟩ : ∃ z, netV ((ka : Int) + 1) ((kb : Int) + 1) side u v = z := ⟨_, rfl⟩
  rw [epz] at hJ HNt
  clear epz
  obtain ⟨pr, epr⟩ : ∃ z, pick pz = z := ⟨_, rfl⟩
  obtain ⟨ft, eft⟩ : ∃ z, fitB pz = z := ⟨_, rfl⟩
  rw [epr, eft] at HNt
  obtain ⟨g, eg⟩ : ∃ g, w.heap.size = g := ⟨_, rfl⟩
  rw [eg] at HX HY
  obtain ⟨W0, eW0⟩ : ∃ W, w.alloc (.cells #[.int .i64 (a : Int), .int .i64 ((ka : Int) + 1), .int .i64 (b : Int), .int .i64 ((kb : Int) + 1)] 35) = W := ⟨_, rfl⟩
  have s0 : W0.heap.size = g + 1 := by rw [← eW0, World.size_alloc, eg]
  have hL0 : W0.heap[g]? = some (.cells #[.int .i64 (a : Int), .int .i64 ((ka : Int) + 1), .int .i64 (b : Int), .int .i64 ((kb : Int) + 1)] 35 (0, 0)) := by rw [← eW0, ← eg]; exact heap_alloc_new w _
  have bl0 : Below g w W0 := by rw [← eW0, ← eg]; exact (Below.refl _ w).alloc (Nat.le_refl _) _
  obtain ⟨W1, eW1⟩ : ∃ W, W0.alloc (.cells #[.int .i64 0, .int .i64 0, .int .i64 0, .int .i64 0, .int .i64 0, .int .i64 0] 37) = W := ⟨_, rfl⟩
  have s1 : W1.heap.size = g + 2 := by rw [← eW1, World.size_alloc, s0]
  have b01 : Below W0.heap.size W0 W1 := by rw [← eW1]; exact (Below.refl _ W0).alloc (Nat.le_refl _) _
  have hZ1 : W1.heap[g + 1]? = some (.cells #[.int .i64 0, .int .i64 0, .int .i64 0, .int .i64 0, .int .i64 0, .int .i64 0] 37 (0, 0)) := by rw [← eW1, ← s0]; exact heap_alloc_new W0 _
  have hL1 := (b01.block g (by omega)).trans hL0
  have bl1 : Hid (Below g w W1) := Lib.hid (bl0.trans (b01.mono (by omega)))
  obtain ⟨l0, l1, l2, l3⟩ := quad_cells hL1
  replace eW0 := Lib.hid eW0
  replace eW1 := Lib.hid eW1
  replace eg := Lib.hid eg
  replace s0 := Lib.hid s0
  replace s1 := Lib.hid s1
  replace hL1 := Lib.hid hL1
  replace hZ1 := Lib.hid hZ1
  clear hL0 bl0 b01
  cases bx with
  | false =>
    have hJn : Hid (J = none) := Lib.hid (by
      rcases hJ with ⟨e, _⟩ | ⟨_, e, _⟩
      · exact e
      · cases e)
    clear hJ epr eft
    go_enter Try.func34, Try.ntmps34
    go_upto_region 1 with (fail)
    rw [eW0.out, eW1.out, eg.out]
    go_wp2_with fail
    refine (HX.out W1 (bl1.out)).mono ?_
    rintro e w2 ⟨rfl, b2⟩
    have B2 := Lib.hid (bl1.out.trans (b2.mono (by have := s1.out; omega)))
    have hL2 := Lib.hid ((b2.block g (by have := s1.out; omega)).trans hL1.out)
    have hZ2 := Lib.hid ((b2.block (g + 1) (by have := s1.out; omega)).trans hZ1.out)
    have sz2 := Lib.hid (show g + 2 ≤ w2.heap.size by have := b2.size; have := s1.out; omega)
    clear l0 l1 l2 l3 b2
    obtain ⟨l0, l1, l2, l3⟩ := quad_cells hL2.out
    go_wp2_with fail
    refine (HY.out w2 B2.out).mono ?_
    rintro e w3 ⟨rfl, b3⟩
    have B3 := Lib.hid (B2.out.trans (b3.mono (by have := sz2.out; omega)))
    have hL3 := Lib.hid ((b3.block g (by have := sz2.out; omega)).trans hL2.out)
    have hZ3 := Lib.hid ((b3.block (g + 1) (by have := sz2.out; omega)).trans hZ2.out)
    have sz3 := Lib.hid (show g + 2 ≤ w3.heap.size by have := b3.size; have := sz2.out; omega)
    clear l0 l1 l2 l3 b3 B2 hL2 hZ2 sz2
    obtain ⟨l0, l1, l2, l3⟩ := quad_cells hL3.out
    go_wp2_with fail
    refine (HNt.out w3).mono ?_
    rintro e w4 ⟨rfl, b4⟩
    have B4 := Lib.hid (B3.out.trans (b4.mono (by have := sz3.out; omega)))
    have hL4 := Lib.hid ((b4.block g (by have := sz3.out; omega)).trans hL3.out)
    have hZ4 := (b4.block (g + 1) (by have := sz3.out; omega)).trans hZ3.out
    have sz4 := Lib.hid (show g + 2 ≤ w4.heap.size by have := b4.size; have := sz3.out; omega)
    clear l0 l1 l2 l3 b4 B3 hL3 hZ3 sz3 HX HY HNt
    obtain ⟨l0, l1, l2, l3⟩ := quad_cells hL4.out
    obtain ⟨f0, f1, f2, f3, f4, f5, c0, c1, c2, c3, c4, c5, hq5⟩ := set6 (.int .i64 0) (.int .i64 0) (.int .i64 0) (.int .i64 0) (.int .i64 0) (.int .i64 0) hZ4
    have on5 := only6 w4 (g + 1) (.int .i64 0) (.int .i64 0) (.int .i64 0) (.int .i64 0) (.int .i64 0) (.int .i64 0)
    have b5 := Lib.hid (B4.out.trans (on5.below (B := g) (by have := sz4.out; omega) (fun k hk e => by omega)))
    replace hq5 := Lib.hid hq5
    replace hZ4 := Lib.hid hZ4
    clear on5
    have bz := build_nopq
    go_wp2_with fail
    (try simp only [Exit.inBlock, Exit.then])
    refine bodyPost_ret (results_best rfl _ _ (g + 1) 37 _ (0, 0) _ rfl hq5.out rfl rfl rfl) rfl ?_
    exact ⟨by rw [hJn.out]; rfl, by rw [eg.out]; exact b5.out⟩
  | true =>
  cases by' with
  | false =>
    have hJn : Hid (J = none) := Lib.hid (by
      rcases hJ with ⟨e, _⟩ | ⟨_, _, e, _⟩
      · exact e
      · cases e)
    clear hJ epr eft
    go_enter Try.func34, Try.ntmps34
    go_upto_region 1 with (fail)
    rw [eW0.out, eW1.out, eg.out]
    go_wp2_with fail
    refine (HX.out W1 (bl1.out)).mono ?_
    rintro e w2 ⟨rfl, b2⟩
    have B2 := Lib.hid (bl1.out.trans (b2.mono (by have := s1.out; omega)))
    have hL2 := Lib.hid ((b2.block g (by have := s1.out; omega)).trans hL1.out)
    have hZ2 := Lib.hid ((b2.block (g + 1) (by have := s1.out; omega)).trans hZ1.out)
    have sz2 := Lib.hid (show g + 2 ≤ w2.heap.size by have := b2.size; have := s1.out; omega)
    clear l0 l1 l2 l3 b2
    obtain ⟨l0, l1, l2, l3⟩ := quad_cells hL2.out
    go_wp2_with fail
    refine (HY.out w2 B2.out).mono ?_
    rintro e w3 ⟨rfl, b3⟩
    have B3 := Lib.hid (B2.out.trans (b3.mono (by have := sz2.out; omega)))
    have hL3 := Lib.hid ((b3.block g (by have := sz2.out; omega)).trans hL2.out)
    have hZ3 := Lib.hid ((b3.block (g + 1) (by have := sz2.out; omega)).trans hZ2.out)
    have sz3 := Lib.hid (show g + 2 ≤ w3.heap.size by have := b3.size; have := sz2.out; omega)
    clear l0 l1 l2 l3 b3 B2 hL2 hZ2 sz2
    obtain ⟨l0, l1, l2, l3⟩ := quad_cells hL3.out
    go_wp2_with fail
    refine (HNt.out w3).mono ?_
    rintro e w4 ⟨rfl, b4⟩
    have B4 := Lib.hid (B3.out.trans (b4.mono (by have := sz3.out; omega)))
    have hL4 := Lib.hid ((b4.block g (by have := sz3.out; omega)).trans hL3.out)
    have hZ4 := (b4.block (g + 1) (by have := sz3.out; omega)).trans hZ3.out
    have sz4 := Lib.hid (show g + 2 ≤ w4.heap.size by have := b4.size; have := sz3.out; omega)
    clear l0 l1 l2 l3 b4 B3 hL3 hZ3 sz3 HX HY HNt
    obtain ⟨l0, l1, l2, l3⟩ := quad_cells hL4.out
    obtain ⟨f0, f1, f2, f3, f4, f5, c0, c1, c2, c3, c4, c5, hq5⟩ := set6 (.int .i64 0) (.int .i64 0) (.int .i64 0) (.int .i64 0) (.int .i64 0) (.int .i64 0) hZ4
    have on5 := only6 w4 (g + 1) (.int .i64 0) (.int .i64 0) (.int .i64 0) (.int .i64 0) (.int .i64 0) (.int .i64 0)
    have b5 := Lib.hid (B4.out.trans (on5.below (B := g) (by have := sz4.out; omega) (fun k hk e => by omega)))
    replace hq5 := Lib.hid hq5
    replace hZ4 := Lib.hid hZ4
    clear on5
    have bz := build_nopq
    go_wp2_with fail
    (try simp only [Exit.inBlock, Exit.then])
    refine bodyPost_ret (results_best rfl _ _ (g + 1) 37 _ (0, 0) _ rfl hq5.out rfl rfl rfl) rfl ?_
    exact ⟨by rw [hJn.out]; rfl, by rw [eg.out]; exact b5.out⟩
  | true =>
  by_cases hI : ¬ I64 pz
  · have ff := fitB_no (x := pz) hI
    rw [eft] at ff
    subst ff
    have hJn : Hid (J = none) := Lib.hid (by
      rcases hJ with ⟨e, _⟩ | ⟨_, _, _, e⟩
      · exact e
      · exact absurd e hI)
    clear hJ epr eft hI
    go_enter Try.func34, Try.ntmps34
    go_upto_region 1 with (fail)
    rw [eW0.out, eW1.out, eg.out]
    go_wp2_with fail
    refine (HX.out W1 (bl1.out)).mono ?_
    rintro e w2 ⟨rfl, b2⟩
    have B2 := Lib.hid (bl1.out.trans (b2.mono (by have := s1.out; omega)))
    have hL2 := Lib.hid ((b2.block g (by have := s1.out; omega)).trans hL1.out)
    have hZ2 := Lib.hid ((b2.block (g + 1) (by have := s1.out; omega)).trans hZ1.out)
    have sz2 := Lib.hid (show g + 2 ≤ w2.heap.size by have := b2.size; have := s1.out; omega)
    clear l0 l1 l2 l3 b2
    obtain ⟨l0, l1, l2, l3⟩ := quad_cells hL2.out
    go_wp2_with fail
    refine (HY.out w2 B2.out).mono ?_
    rintro e w3 ⟨rfl, b3⟩
    have B3 := Lib.hid (B2.out.trans (b3.mono (by have := sz2.out; omega)))
    have hL3 := Lib.hid ((b3.block g (by have := sz2.out; omega)).trans hL2.out)
    have hZ3 := Lib.hid ((b3.block (g + 1) (by have := sz2.out; omega)).trans hZ2.out)
    have sz3 := Lib.hid (show g + 2 ≤ w3.heap.size by have := b3.size; have := sz2.out; omega)
    clear l0 l1 l2 l3 b3 B2 hL2 hZ2 sz2
    obtain ⟨l0, l1, l2, l3⟩ := quad_cells hL3.out
    go_wp2_with fail
    refine (HNt.out w3).mono ?_
    rintro e w4 ⟨rfl, b4⟩
    have B4 := Lib.hid (B3.out.trans (b4.mono (by have := sz3.out; omega)))
    have hL4 := Lib.hid ((b4.block g (by have := sz3.out; omega)).trans hL3.out)
    have hZ4 := (b4.block (g + 1) (by have := sz3.out; omega)).trans hZ3.out
    have sz4 := Lib.hid (show g + 2 ≤ w4.heap.size by have := b4.size; have := sz3.out; omega)
    clear l0 l1 l2 l3 b4 B3 hL3 hZ3 sz3 HX HY HNt
    obtain ⟨l0, l1, l2, l3⟩ := quad_cells hL4.out
    obtain ⟨f0, f1, f2, f3, f4, f5, c0, c1, c2, c3, c4, c5, hq5⟩ := set6 (.int .i64 0) (.int .i64 0) (.int .i64 0) (.int .i64 0) (.int .i64 0) (.int .i64 0) hZ4
    have on5 := only6 w4 (g + 1) (.int .i64 0) (.int .i64 0) (.int .i64 0) (.int .i64 0) (.int .i64 0) (.int .i64 0)
    have b5 := Lib.hid (B4.out.trans (on5.below (B := g) (by have := sz4.out; omega) (fun k hk e => by omega)))
    replace hq5 := Lib.hid hq5
    replace hZ4 := Lib.hid hZ4
    clear on5
    have bz := build_nopq
    go_wp2_with fail
    (try simp only [Exit.inBlock, Exit.then])
    refine bodyPost_ret (results_best rfl _ _ (g + 1) 37 _ (0, 0) _ rfl hq5.out rfl rfl rfl) rfl ?_
    exact ⟨by rw [hJn.out]; rfl, by rw [eg.out]; exact b5.out⟩
  · have hI : I64 pz := Classical.byContradiction hI
    have ff := fitB_yes hI.1 hI.2
    have pp := pick_yes ff
    rw [eft] at ff
    rw [epr] at pp
    subst ff
    subst pp
    obtain ⟨nq, enq⟩ : ∃ z, min qx qy = z := ⟨_, rfl⟩
    have hJs : Hid (J = some ⟨pr, min qx qy, (a : Int), (ka : Int) + 1, (b : Int), (kb : Int) + 1⟩) := Lib.hid (by
      rcases hJ with ⟨_, e⟩ | ⟨e, _⟩
      · exact absurd ⟨rfl, rfl, hI⟩ e
      · exact e)
    have hnq : Hid (min qx qy = nq) := Lib.hid enq
    clear hJ epr eft hI
    go_enter Try.func34, Try.ntmps34
    go_upto_region 1 with (fail)
    rw [eW0.out, eW1.out, eg.out]
    go_wp2_with fail
    refine (HX.out W1 (bl1.out)).mono ?_
    rintro e w2 ⟨rfl, b2⟩
    have B2 := Lib.hid (bl1.out.trans (b2.mono (by have := s1.out; omega)))
    have hL2 := Lib.hid ((b2.block g (by have := s1.out; omega)).trans hL1.out)
    have hZ2 := Lib.hid ((b2.block (g + 1) (by have := s1.out; omega)).trans hZ1.out)
    have sz2 := Lib.hid (show g + 2 ≤ w2.heap.size by have := b2.size; have := s1.out; omega)
    clear l0 l1 l2 l3 b2
    obtain ⟨l0, l1, l2, l3⟩ := quad_cells hL2.out
    go_wp2_with fail
    refine (HY.out w2 B2.out).mono ?_
    rintro e w3 ⟨rfl, b3⟩
    have B3 := Lib.hid (B2.out.trans (b3.mono (by have := sz2.out; omega)))
    have hL3 := Lib.hid ((b3.block g (by have := sz2.out; omega)).trans hL2.out)
    have hZ3 := Lib.hid ((b3.block (g + 1) (by have := sz2.out; omega)).trans hZ2.out)
    have sz3 := Lib.hid (show g + 2 ≤ w3.heap.size by have := b3.size; have := sz2.out; omega)
    clear l0 l1 l2 l3 b3 B2 hL2 hZ2 sz2
    obtain ⟨l0, l1, l2, l3⟩ := quad_cells hL3.out
    go_wp2_with fail
    refine (HNt.out w3).mono ?_
    rintro e w4 ⟨rfl, b4⟩
    have B4 := Lib.hid (B3.out.trans (b4.mono (by have := sz3.out; omega)))
    have hL4 := Lib.hid ((b4.block g (by have := sz3.out; omega)).trans hL3.out)
    have hZ4 := (b4.block (g + 1) (by have := sz3.out; omega)).trans hZ3.out
    have sz4 := Lib.hid (show g + 2 ≤ w4.heap.size by have := b4.size; have := sz3.out; omega)
    clear l0 l1 l2 l3 b4 B3 hL3 hZ3 sz3 HX HY HNt
    obtain ⟨l0, l1, l2, l3⟩ := quad_cells hL4.out
    obtain ⟨f0, f1, f2, f3, f4, f5, c0, c1, c2, c3, c4, c5, hq5⟩ := set6 (.int .i64 pr) (.int .i64 nq) (.int .i64 (a : Int)) (.int .i64 ((ka : Int) + 1)) (.int .i64 (b : Int)) (.int .i64 ((kb : Int) + 1)) hZ4
    have on5 := only6 w4 (g + 1) (.int .i64 pr) (.int .i64 nq) (.int .i64 (a : Int)) (.int .i64 ((ka : Int) + 1)) (.int .i64 (b : Int)) (.int .i64 ((kb : Int) + 1))
    have b5 := Lib.hid (B4.out.trans (on5.below (B := g) (by have := sz4.out; omega) (fun k hk e => by omega)))
    replace hq5 := Lib.hid hq5
    replace hZ4 := Lib.hid hZ4
    clear on5
    have bz := build_pquote pr nq (a : Int) ((ka : Int) + 1) (b : Int) ((kb : Int) + 1)
    go_wp2_with fail
    (try simp only [Exit.inBlock, Exit.then])
    refine bodyPost_ret (results_best rfl _ _ (g + 1) 37 _ (0, 0) _ rfl hq5.out rfl rfl rfl) rfl ?_
    exact ⟨by rw [hJs.out, hnq.out]; rfl, by rw [eg.out]; exact b5.out⟩
end Go.Proofs.Ytdeofifidjbolaa
