/-
  The document's quote of two legs, by a difference.
-/
import Derived.Test.YtdeofifidjbolaaImJoin
namespace Go.Proofs.Ytdeofifidjbolaa
open Go.RowKit
set_option linter.unusedVariables false
set_option linter.unusedSimpArgs false

set_option maxRecDepth 100000 in
set_option maxHeartbeats 6400000 in
theorem RJoinBack (p : PD) (AT : Option Addr) (nT cT : Nat) (T : List Tp) (inst : Int) (AL : Option Addr) (nL cL : Nat) (L : List Qt) (a : Nat) (ka : Nat) (b : Nat) (kb : Nat) (w : World) (base : Nat) (hT : Hid (HV fTp w AT nT T)) (hOT : Hid (OkT T)) (hL : Hid (HV fQt w AL nL L)) (hLc : nL ≤ cL) (hLm : cL ≤ 9223372036854775807) (hLn : Hid (AL = none → cL = 0)) (hLb : Hid (∀ ad, AL = some ad → base ≤ ad.block)) (hb : base ≤ w.heap.size) (hn : nL ≤ 1000) (ha : a < nT) (hbt : b < nT) (hka : ka < 2) (hkb : kb < 2) (hnT : nT ≤ 1000) :
    Calls Try.prog 45 #[p.val, .slice AT nT cT, .int .i64 inst, .slice AL nL cL, .agg #[.int .i64 (a : Int), .int .i64 ((ka : Int) + 1)], .agg #[.int .i64 (b : Int), .int .i64 ((kb : Int) + 1)], .int .i64 (0)] w (AnsQ base w (L ++ joinQ T (a : Int) ((ka : Int) + 1) (b : Int) ((kb : Int) + 1) (0))) := by
  obtain ⟨i0, hi0, hz0, hz1, hz2⟩ := info_parts info_rquote
  have hlT := hT.out.1
  have hxT := topAt_mem (T := T) (i := (a : Int)) (by omega) (by omega)
  have hyT := topAt_mem (T := T) (i := (b : Int)) (by omega) (by omega)
  have hJ := joinO_case (topAt T (a : Int)) (topAt T (b : Int)) (a : Int) ((ka : Int) + 1) (b : Int) ((kb : Int) + 1) (0)
  have hxo := topAt_ok hOT.out (a : Int)
  have hyo := topAt_ok hOT.out (b : Int)
  have hQ : joinQ T (a : Int) ((ka : Int) + 1) (b : Int) ((kb : Int) + 1) (0) = (joinO (topAt T (a : Int)) (topAt T (b : Int)) (a : Int) ((ka : Int) + 1) (b : Int) ((kb : Int) + 1) (0)).toList := rfl
  obtain ⟨J, eJ⟩ : ∃ J, joinO (topAt T (a : Int)) (topAt T (b : Int)) (a : Int) ((ka : Int) + 1) (b : Int) ((kb : Int) + 1) (0) = J := ⟨_, rfl⟩
  rw [eJ] at hJ hQ
  rw [hQ]
  obtain ⟨x, ex⟩ : ∃ x, topAt T (a : Int) = x := ⟨_, rfl⟩
  obtain ⟨y, ey⟩ : ∃ y, topAt T (b : Int) = y := ⟨_, rfl⟩
  rw [ex] at hxT hJ hxo
  rw [ey] at hyT hJ hyo
  rw [Int.toNat_natCast] at hxT hyT
  clear ex ey eJ hQ
  obtain ⟨code, A1, n1, c1, tick, low, high, wide, rule, top, least, part, A2, n2, c2, Q, R⟩ := p
  show Calls Try.prog 45 #[.agg #[.string (str code), .slice A1 n1 c1, .int .i64 tick, .int .i64 low, .int .i64 high, .int .i64 wide, .int .i64 rule, .int .i64 top, .int .i64 least, .int .i64 part, .slice A2 n2 c2], .slice AT nT cT, .int .i64 inst, .slice AL nL cL, .agg #[.int .i64 (a : Int), .int .i64 ((ka : Int) + 1)], .agg #[.int .i64 (b : Int), .int .i64 ((kb : Int) + 1)], .int .i64 (0)] w _
  obtain ⟨g, eg⟩ : ∃ g, w.heap.size = g := ⟨_, rfl⟩
  obtain ⟨Wp, eWp⟩ : ∃ W, w.alloc (.cells #[.string (str code), .slice A1 n1 c1, .int .i64 tick, .int .i64 low, .int .i64 high, .int .i64 wide, .int .i64 rule, .int .i64 top, .int .i64 least, .int .i64 part, .slice A2 n2 c2] 25) = W := ⟨_, rfl⟩
  have sp : Wp.heap.size = g + 1 := by rw [← eWp, World.size_alloc, eg]
  obtain ⟨Wa, eWa⟩ : ∃ W, Wp.alloc (.cells #[.int .i64 (a : Int), .int .i64 ((ka : Int) + 1)] 61) = W := ⟨_, rfl⟩
  have sa : Wa.heap.size = g + 2 := by rw [← eWa, World.size_alloc, sp]
  obtain ⟨W0, eW0⟩ : ∃ W, Wa.alloc (.cells #[.int .i64 (b : Int), .int .i64 ((kb : Int) + 1)] 61) = W := ⟨_, rfl⟩
  have s0 : W0.heap.size = g + 3 := by rw [← eW0, World.size_alloc, sa]
  have hA0 : W0.heap[g + 1]? = some (.cells #[.int .i64 (a : Int), .int .i64 ((ka : Int) + 1)] 61 (0, 0)) := by rw [← eW0]; exact (heap_alloc_old _ _ (by omega)).trans (by rw [← eWa, ← sp]; exact heap_alloc_new Wp _)
  have hB0 : W0.heap[g + 2]? = some (.cells #[.int .i64 (b : Int), .int .i64 ((kb : Int) + 1)] 61 (0, 0)) := by rw [← eW0, ← sa]; exact heap_alloc_new Wa _
  have bl0 : Below g w W0 := by rw [← eW0, ← eWa, ← eWp, ← eg]; exact (((Below.refl _ w).alloc (Nat.le_refl _) _).alloc (by simp) _).alloc (by simp; omega) _
  have T0 : HV fTp W0 AT nT T := hT.out.below (by rw [eg]; exact bl0)
  obtain ⟨W1, eW1⟩ : ∃ W, W0.alloc (.cells x.cells 89) = W := ⟨_, rfl⟩
  have s1 : W1.heap.size = g + 4 := by rw [← eW1, World.size_alloc, s0]
  have b01 : Below W0.heap.size W0 W1 := by rw [← eW1]; exact (Below.refl _ W0).alloc (Nat.le_refl _) _
  have hX1 : W1.heap[g + 3]? = some (.cells x.cells 89 (0, 0)) := by rw [← eW1, ← s0]; exact heap_alloc_new W0 _
  obtain ⟨W2, eW2⟩ : ∃ W, W1.alloc (.cells y.cells 89) = W := ⟨_, rfl⟩
  have s2 : W2.heap.size = g + 5 := by rw [← eW2, World.size_alloc, s1]
  have b12 : Below W1.heap.size W1 W2 := by rw [← eW2]; exact (Below.refl _ W1).alloc (Nat.le_refl _) _
  have hY2 : W2.heap[g + 4]? = some (.cells y.cells 89 (0, 0)) := by rw [← eW2, ← s1]; exact heap_alloc_new W1 _
  have hX2 : W2.heap[g + 3]? = some (.cells x.cells 89 (0, 0)) := (b12.block _ (by omega)).trans hX1
  have hA2 := (b12.block (g + 1) (by omega)).trans ((b01.block (g + 1) (by omega)).trans hA0)
  have hB2 := (b12.block (g + 2) (by omega)).trans ((b01.block (g + 2) (by omega)).trans hB0)
  have T1 : HV fTp W1 AT nT T := T0.below b01
  have bl2 : Below g w W2 := (bl0.trans (b01.mono (by omega))).trans (b12.mono (by omega))
  obtain ⟨ta, offa, rfl, x0, x1, x2, x3, x4, x5⟩ := T0.atT hxT
  obtain ⟨tb, offb, e', y0, y1, y2, y3, y4, y5⟩ := T1.atT hyT
  injection e' with e'
  injection e' with e1 e2
  subst e1; subst e2
  obtain ⟨l0, l1⟩ := leg_cells hA0
  obtain ⟨m0, m1⟩ := leg_cells ((b01.block (g + 2) (by omega)).trans hB0)
  have da : decide ((a : Int) < (nT : Int)) = true := decide_eq_true (by omega)
  have da' : (a : Int) < (nT : Int) := by omega
  have db : decide ((b : Int) < (nT : Int)) = true := decide_eq_true (by omega)
  have db' : (b : Int) < (nT : Int) := by omega
  obtain ⟨hx, ux, vx⟩ := top_cells hX2 hka
  obtain ⟨hy, uy, vy⟩ := top_cells hY2 hkb
  have iux := hxo.priceS ((ka : Int) + 1)
  have iuy := hyo.priceS ((kb : Int) + 1)
  have ivx := hxo.qtyS ((ka : Int) + 1)
  have ivy := hyo.qtyS ((kb : Int) + 1)
  obtain ⟨bx, ebx⟩ : ∃ v, x.has ((ka : Int) + 1) = v := ⟨_, rfl⟩
  obtain ⟨by', eby⟩ : ∃ v, y.has ((kb : Int) + 1) = v := ⟨_, rfl⟩
  obtain ⟨u, eu⟩ : ∃ v, x.price ((ka : Int) + 1) = v := ⟨_, rfl⟩
  obtain ⟨v, ev⟩ : ∃ v, y.price ((kb : Int) + 1) = v := ⟨_, rfl⟩
  obtain ⟨qx, eqx⟩ : ∃ v, x.qty ((ka : Int) + 1) = v := ⟨_, rfl⟩
  obtain ⟨qy, eqy⟩ : ∃ v, y.qty ((kb : Int) + 1) = v := ⟨_, rfl⟩
  rw [ebx] at hx hJ
  rw [eby] at hy hJ
  rw [eu] at ux iux hJ
  rw [ev] at uy iuy hJ
  rw [eqx] at vx ivx hJ
  rw [eqy] at vy ivy hJ
  have hLl := hL.out.1
  have hL2 := Lib.hid (hL.out.below (by rw [eg]; exact bl2))
  obtain ⟨xh0, xh1, xp0, xp1, xq0, xq1⟩ := x
  obtain ⟨yh0, yh1, yp0, yp1, yq0, yq1⟩ := y
  simp only at x0 x1 x2 x3 x4 x5 y0 y1 y2 y3 y4 y5
  replace eqx := Lib.hid eqx
  replace eqy := Lib.hid eqy
  clear ebx eby eu ev hxo hyo hxT hyT T0 T1 hX1 hA0 hB0 b01 b12 bl0 hlT
  replace eWp : Hid (w.alloc (.cells #[.string (str code), .slice A1 n1 c1, .int .i64 tick, .int .i64 low, .int .i64 high, .int .i64 wide, .int .i64 rule, .int .i64 top, .int .i64 least, .int .i64 part, .slice A2 n2 c2] 25) = Wp) := Lib.hid eWp
  replace eWa := Lib.hid eWa
  replace eW0 := Lib.hid eW0
  replace eW1 : Hid (W0.alloc (.cells #[.bool xh0, .bool xh1, .int .i64 xp0, .int .i64 xp1, .int .i64 xq0, .int .i64 xq1] 89) = W1) := Lib.hid eW1
  replace eW2 : Hid (W1.alloc (.cells #[.bool yh0, .bool yh1, .int .i64 yp0, .int .i64 yp1, .int .i64 yq0, .int .i64 yq1] 89) = W2) := Lib.hid eW2
  replace eg := Lib.hid eg
  replace sp := Lib.hid sp
  replace sa := Lib.hid sa
  replace s0 := Lib.hid s0
  replace s1 := Lib.hid s1
  replace s2 := Lib.hid s2
  replace hX2 := Lib.hid hX2
  replace hY2 := Lib.hid hY2
  replace hA2 := Lib.hid hA2
  replace hB2 := Lib.hid hB2
  replace hJ := Lib.hid hJ
  replace bl2 := Lib.hid bl2
  clear hT hL hOT
  go_enter Try.func45, Try.ntmps45
  go_upto_region 1 with (fail)
  rw [eWp.out, eWa.out, eW0.out, eg.out]
  go_upto_region 2 with (fail)
  rw [eW1.out, s0.out]
  clear x0 x1 x2 x3 x4 x5 eW1
  go_upto_region 3 with (fail)
  rw [eW2.out, s1.out]
  clear y0 y1 y2 y3 y4 y5 eW2 l0 l1 m0 m1
  obtain ⟨l0, l1⟩ := leg_cells hA2.out
  obtain ⟨m0, m1⟩ := leg_cells hB2.out
  have ans : Hid (∀ W, Below W2.heap.size W2 W → J = none → AnsQ base w (L ++ J.toList) (.returned (.slice AL nL cL)) W) := Lib.hid (fun W b e => by
    subst e
    exact ⟨AL, nL, cL, rfl, by rw [Option.toList_none, List.append_nil]; exact hL2.out.below b, hLc, hLm, hLn.out, hLb.out, by rw [eg.out]; exact bl2.out.trans (b.mono (by have := s2.out; omega))⟩)
  cases bx with
  | false =>
    have hJn : J = none := by
      rcases hJ.out with ⟨e, _⟩ | ⟨_, e, _⟩
      · exact e
      · cases e
    replace hJn := Lib.hid hJn
    go_wp2_with fail
    go_ret
    exact ans.out _ (Below.refl _ _) hJn.out
  | true =>
  cases by' with
  | false =>
    have hJn : J = none := by
      rcases hJ.out with ⟨e, _⟩ | ⟨_, _, e, _⟩
      · exact e
      · cases e
    replace hJn := Lib.hid hJn
    go_wp2_with fail
    go_ret
    exact ans.out _ (Below.refl _ _) hJn.out
  | true =>
  go_upto_region 5 with (fail)
  go_region
  have b23 : Below W2.heap.size W2 W2.drew := (Below.refl _ W2).drew
  obtain ⟨W3, eW3⟩ : ∃ W, W2.drew = W := ⟨_, rfl⟩
  rw [eW3] at b23 ⊢
  have s3 : Hid (W3.heap.size = g + 5) := Lib.hid (by rw [← eW3]; exact s2.out)
  have hX3 : Hid (W3.heap[g + 3]? = some (.cells #[.bool xh0, .bool xh1, .int .i64 xp0, .int .i64 xp1, .int .i64 xq0, .int .i64 xq1] 89 (0, 0))) := Lib.hid ((b23.block _ (by have := s2.out; omega)).trans hX2.out)
  have hY3 : Hid (W3.heap[g + 4]? = some (.cells #[.bool yh0, .bool yh1, .int .i64 yp0, .int .i64 yp1, .int .i64 yq0, .int .i64 yq1] 89 (0, 0))) := Lib.hid ((b23.block _ (by have := s2.out; omega)).trans hY2.out)
  have hA3 := Lib.hid ((b23.block (g + 1) (by have := s2.out; omega)).trans hA2.out)
  have hB3 := Lib.hid ((b23.block (g + 2) (by have := s2.out; omega)).trans hB2.out)
  have bl3 := Lib.hid (bl2.out.trans (b23.mono (by have := s2.out; omega)))
  have hL3 := Lib.hid (hL2.out.below b23)
  replace b23 := Lib.hid b23
  obtain ⟨-, -, vx3⟩ := top_cells (x := ⟨xh0, xh1, xp0, xp1, xq0, xq1⟩) hX3.out hka
  obtain ⟨-, -, vy3⟩ := top_cells (x := ⟨yh0, yh1, yp0, yp1, yq0, yq1⟩) hY3.out hkb
  rw [eqx.out] at vx3
  rw [eqy.out] at vy3
  clear eW3 hX2 hY2 hA2 hB2 bl2 hL2 s2 ux uy vx vy hx hy l0 l1 m0 m1
  obtain ⟨l0, l1⟩ := leg_cells hA3.out
  obtain ⟨m0, m1⟩ := leg_cells hB3.out
  have HA := RefAdd_any u v W3 iux.1 iux.2 iuy.1 iuy.2
  rw [show legPrice u v (0) = v - u from rfl] at hJ
  obtain ⟨pa, epa⟩ : ∃ z, pick (u + v) = z := ⟨_, rfl⟩
  obtain ⟨fa, efa⟩ : ∃ z, fitB (u + v) = z := ⟨_, rfl⟩
  rw [epa, efa] at HA
  replace HA := Lib.hid HA
  clear epa efa
  have HS := RefSub_any v u W3 iuy.1 iuy.2 iux.1 iux.2
  obtain ⟨pr, epr⟩ : ∃ z, v - u = z := ⟨_, rfl⟩
  rw [epr] at hJ HS
  replace epr := Lib.hid epr
  by_cases hI : ¬ I64 pr
  · have ff := fitB_no (x := pr) hI
    rw [pick_no ff, ff] at HS
    replace HS := Lib.hid HS
    clear ff
    have hJn : J = none := by
      rcases hJ.out with ⟨e, _⟩ | ⟨_, _, _, e⟩
      · exact e
      · exact absurd e hI
    replace hJn := Lib.hid hJn
    go_wp2_with fail
    refine HA.out.mono ?_
    rintro e w' ⟨rfl, rfl⟩
    go_wp2_with fail
    refine HS.out.mono ?_
    rintro e w' ⟨rfl, rfl⟩
    go_wp2_with fail
    go_ret
    exact ans.out _ b23.out hJn.out
  have hI : I64 pr := Classical.byContradiction hI
  have ff := fitB_yes hI.1 hI.2
  rw [pick_yes ff, ff] at HS
  replace HS := Lib.hid HS
  clear ff
  have hJs : J = some ⟨pr, min qx qy, (a : Int), (ka : Int) + 1, (b : Int), (kb : Int) + 1⟩ := by
    rcases hJ.out with ⟨_, e⟩ | ⟨e, _⟩
    · exact absurd ⟨rfl, rfl, hI⟩ e
    · exact e
  replace hJs := Lib.hid hJs
  obtain ⟨pr1, pr2⟩ := hI
  clear hJ
  go_wp2_with fail
  refine HA.out.mono ?_
  rintro e w' ⟨rfl, rfl⟩
  go_wp2_with fail
  refine HS.out.mono ?_
  rintro e w' ⟨rfl, rfl⟩
  go_upto_region 14 with (fail)
  have bg1 := build_legs (a : Int) ((ka : Int) + 1) (b : Int) ((kb : Int) + 1)
  have bg2 := build_rquote pr qx (a : Int) ((ka : Int) + 1) (b : Int) ((kb : Int) + 1)
  have wka : IntKind.i64.wrap (ka : Int) = (ka : Int) := IntWalk.i64_in _ (by omega)
  have dk2 : ¬ (2 : Int) ≤ (ka : Int) := by omega
  have dk1 : decide ((ka : Int) < 2) = true := decide_eq_true (by omega)
  have z0 : (fun W : World => W.cell? ⟨g + 1, 0, none⟩ = some (.int .i64 (a : Int)) ∧ W.cell? ⟨g + 1, 1, none⟩ = some (.int .i64 ((ka : Int) + 1)) ∧ W.cell? ⟨g + 1 + 1, 0, none⟩ = some (.int .i64 (b : Int)) ∧ W.cell? ⟨g + 1 + 1, 1, none⟩ = some (.int .i64 ((kb : Int) + 1)) ∧ W.cell? ⟨g + 3, 4 + ka, none⟩ = some (.int .i64 qx)) W3.drew := ⟨l0, l1, m0, m1, vx3⟩
  refine wp_region_held_drew (S := (fun W : World => W.cell? ⟨g + 1, 0, none⟩ = some (.int .i64 (a : Int)) ∧ W.cell? ⟨g + 1, 1, none⟩ = some (.int .i64 ((ka : Int) + 1)) ∧ W.cell? ⟨g + 1 + 1, 0, none⟩ = some (.int .i64 (b : Int)) ∧ W.cell? ⟨g + 1 + 1, 1, none⟩ = some (.int .i64 ((kb : Int) + 1)) ∧ W.cell? ⟨g + 3, 4 + ka, none⟩ = some (.int .i64 qx))) (by kernel_rfl) z0 (fun hHeld => ?_)
  refine wpAnyH_take (i := 0) (v := .int .i64 pr) rfl (by kernel_rfl) (by kernel_rfl) (by kernel_rfl) (fun _ _ _ h => h) (Or.inl ⟨by kernel_rfl, fun W hSw => ?_⟩) (by assumption) ?_
  · (try dsimp only at hSw)
    go_simp
  (try simp only [Act.put, List.setIfInBounds_toArray, List.set_cons_zero, List.set_cons_succ])
  refine wpAnyH_take (i := 1) (v := .pointer (some ⟨g + 1, 1, none⟩)) rfl (by kernel_rfl) (by kernel_rfl) (by kernel_rfl) (fun _ _ _ h => h) (Or.inl ⟨by kernel_rfl, fun W hSw => ?_⟩) (by assumption) ?_
  · (try dsimp only at hSw)
    go_simp
  (try simp only [Act.put, List.setIfInBounds_toArray, List.set_cons_zero, List.set_cons_succ])
  refine wpAnyH_take (i := 2) (v := .int .i64 ((ka : Int) + 1)) rfl (by kernel_rfl) (by kernel_rfl) (by kernel_rfl) (fun _ _ _ h => h) (Or.inl ⟨by kernel_rfl, fun W hSw => ?_⟩) (by assumption) ?_
  · (try dsimp only at hSw)
    go_simp
  (try simp only [Act.put, List.setIfInBounds_toArray, List.set_cons_zero, List.set_cons_succ])
  refine wpAnyH_take (i := 3) (v := .int .i64 (ka : Int)) rfl (by kernel_rfl) (by kernel_rfl) (by kernel_rfl) (fun _ _ _ h => h) (Or.inl ⟨by kernel_rfl, fun W hSw => ?_⟩) (by assumption) ?_
  · (try dsimp only at hSw)
    go_simp
  (try simp only [Act.put, List.setIfInBounds_toArray, List.set_cons_zero, List.set_cons_succ])
  refine wpAnyH_take (i := 4) (v := .pointer (some ⟨g + 3, 4, none⟩)) rfl (by kernel_rfl) (by kernel_rfl) (by kernel_rfl) (fun _ _ _ h => h) (Or.inl ⟨by kernel_rfl, fun W hSw => ?_⟩) (by assumption) ?_
  · (try dsimp only at hSw)
    go_simp
  (try simp only [Act.put, List.setIfInBounds_toArray, List.set_cons_zero, List.set_cons_succ])
  refine wpAnyH_take (i := 5) (v := .pointer (some ⟨g + 3, 4 + ka, none⟩)) rfl (by kernel_rfl) (by kernel_rfl) (by kernel_rfl) (fun _ _ _ h => h) (Or.inl ⟨by kernel_rfl, fun W hSw => ?_⟩) (by assumption) ?_
  · (try dsimp only at hSw)
    go_simp
  (try simp only [Act.put, List.setIfInBounds_toArray, List.set_cons_zero, List.set_cons_succ])
  refine wpAnyH_take (i := 6) (v := .int .i64 qx) rfl (by kernel_rfl) (by kernel_rfl) (by kernel_rfl) (fun _ _ _ h => h) (Or.inl ⟨by kernel_rfl, fun W hSw => ?_⟩) (by assumption) ?_
  · (try dsimp only at hSw)
    go_simp
  (try simp only [Act.put, List.setIfInBounds_toArray, List.set_cons_zero, List.set_cons_succ])
  refine wpAnyH_take (i := 7) (v := .agg #[.int .i64 (a : Int), .int .i64 ((ka : Int) + 1)]) rfl (by kernel_rfl) (by kernel_rfl) (by kernel_rfl) (fun _ _ _ h => h) (Or.inl ⟨by kernel_rfl, fun W hSw => ?_⟩) (by assumption) ?_
  · (try dsimp only at hSw)
    go_simp
  (try simp only [Act.put, List.setIfInBounds_toArray, List.set_cons_zero, List.set_cons_succ])
  refine wpAnyH_take (i := 8) (v := .agg #[.int .i64 (b : Int), .int .i64 ((kb : Int) + 1)]) rfl (by kernel_rfl) (by kernel_rfl) (by kernel_rfl) (fun _ _ _ h => h) (Or.inl ⟨by kernel_rfl, fun W hSw => ?_⟩) (by assumption) ?_
  · (try dsimp only at hSw)
    go_simp
  (try simp only [Act.put, List.setIfInBounds_toArray, List.set_cons_zero, List.set_cons_succ])
  refine wpAnyH_take (i := 9) (v := .agg #[.int .i64 (a : Int), .int .i64 ((ka : Int) + 1), .int .i64 (b : Int), .int .i64 ((kb : Int) + 1)]) rfl (by kernel_rfl) (by kernel_rfl) (by kernel_rfl) (fun _ _ _ h => h) (Or.inl ⟨by kernel_rfl, fun W hSw => ?_⟩) (by assumption) ?_
  · (try dsimp only at hSw)
    go_simp
  (try simp only [Act.put, List.setIfInBounds_toArray, List.set_cons_zero, List.set_cons_succ])
  refine wpAnyH_take (i := 10) (v := .agg #[.int .i64 pr, .int .i64 qx, .int .i64 (a : Int), .int .i64 ((ka : Int) + 1), .int .i64 (b : Int), .int .i64 ((kb : Int) + 1)]) rfl (by kernel_rfl) (by kernel_rfl) (by kernel_rfl) (fun _ _ _ h => h) (Or.inl ⟨by kernel_rfl, fun W hSw => ?_⟩) (by assumption) ?_
  · (try dsimp only at hSw)
    go_simp
  (try simp only [Act.put, List.setIfInBounds_toArray, List.set_cons_zero, List.set_cons_succ])
  refine wpAnyH_ready (rs := [11]) (by kernel_rfl) (by simp) ?_
  refine AllReadyH.cons rfl (fun K hK => ?_) AllReadyH.nil
  go_simp
  have b34 : Below W3.heap.size W3 (W3.alloc (.cells #[.int .i64 0, .int .i64 0, .int .i64 0, .int .i64 0, .int .i64 0, .int .i64 0] 64)).drew := ((Below.refl _ W3).alloc (Nat.le_refl _) _).drew
  have hq4 : (W3.alloc (.cells #[.int .i64 0, .int .i64 0, .int .i64 0, .int .i64 0, .int .i64 0, .int .i64 0] 64)).drew.heap[g + 5]? = some (.cells #[.int .i64 0, .int .i64 0, .int .i64 0, .int .i64 0, .int .i64 0, .int .i64 0] 64 (0, 0)) := by rw [← s3.out]; exact heap_alloc_new W3 _
  obtain ⟨W4, e4⟩ : ∃ W, (W3.alloc (.cells #[.int .i64 0, .int .i64 0, .int .i64 0, .int .i64 0, .int .i64 0, .int .i64 0] 64)).drew = W := ⟨_, rfl⟩
  rw [e4] at b34 hq4 ⊢
  rw [s3.out]
  have s34 := s3.out
  have z4 : (fun W : World => W.cell? ⟨g + 1, 0, none⟩ = some (.int .i64 (a : Int)) ∧ W.cell? ⟨g + 1, 1, none⟩ = some (.int .i64 ((ka : Int) + 1)) ∧ W.cell? ⟨g + 1 + 1, 0, none⟩ = some (.int .i64 (b : Int)) ∧ W.cell? ⟨g + 1 + 1, 1, none⟩ = some (.int .i64 ((kb : Int) + 1)) ∧ W.cell? ⟨g + 3, 4 + ka, none⟩ = some (.int .i64 qx)) W4 := ⟨(World.cell?_of_block (a := ⟨g + 1, 0, none⟩) (b34.block (g + 1) (by omega))).trans l0, (World.cell?_of_block (a := ⟨g + 1, 1, none⟩) (b34.block (g + 1) (by omega))).trans l1, (World.cell?_of_block (a := ⟨g + 1 + 1, 0, none⟩) (b34.block (g + 1 + 1) (by omega))).trans m0, (World.cell?_of_block (a := ⟨g + 1 + 1, 1, none⟩) (b34.block (g + 1 + 1) (by omega))).trans m1, (World.cell?_of_block (a := ⟨g + 3, 4 + ka, none⟩) (b34.block (g + 3) (by omega))).trans vx3⟩
  obtain ⟨f0, f1, f2, f3, f4, f5, c0, c1, c2, c3, c4, c5, hq5⟩ := set6 (.int .i64 pr) (.int .i64 qx) (.int .i64 (a : Int)) (.int .i64 ((ka : Int) + 1)) (.int .i64 (b : Int)) (.int .i64 ((kb : Int) + 1)) hq4
  have on5 := only6 W4 (g + 5) (.int .i64 pr) (.int .i64 qx) (.int .i64 (a : Int)) (.int .i64 ((ka : Int) + 1)) (.int .i64 (b : Int)) (.int .i64 ((kb : Int) + 1))
  clear e4 s34
  refine hK.out _ _ z4 (fun hHeld => ?_)
  clear hK K
  (try simp only [Act.put, List.setIfInBounds_toArray, List.set_cons_zero, List.set_cons_succ])
  refine wpAnyH_ready (rs := [12]) (by kernel_rfl) (by simp) ?_
  refine AllReadyH.cons rfl (fun K hK => ?_) AllReadyH.nil
  go_simp
  obtain ⟨W5, e5⟩ : ∃ W, ((((((W4.setCell ⟨g + 5, 0, none⟩ (.int .i64 pr)).setCell ⟨g + 5, 1, none⟩ (.int .i64 qx)).setCell ⟨g + 5, 2, none⟩ (.int .i64 (a : Int))).setCell ⟨g + 5, 3, none⟩ (.int .i64 ((ka : Int) + 1))).setCell ⟨g + 5, 4, none⟩ (.int .i64 (b : Int))).setCell ⟨g + 5, 5, none⟩ (.int .i64 ((kb : Int) + 1))) = W := ⟨_, rfl⟩
  rw [e5] at on5 hq5 ⊢
  have s34 := s3.out
  have k35 : ∀ k, k < g + 5 → W5.heap[k]? = W3.heap[k]? := fun k hk => (on5.block k (by have := b34.size; omega) (by omega)).trans (b34.block k (by omega))
  have z5 : (fun W : World => W.cell? ⟨g + 1, 0, none⟩ = some (.int .i64 (a : Int)) ∧ W.cell? ⟨g + 1, 1, none⟩ = some (.int .i64 ((ka : Int) + 1)) ∧ W.cell? ⟨g + 1 + 1, 0, none⟩ = some (.int .i64 (b : Int)) ∧ W.cell? ⟨g + 1 + 1, 1, none⟩ = some (.int .i64 ((kb : Int) + 1)) ∧ W.cell? ⟨g + 3, 4 + ka, none⟩ = some (.int .i64 qx)) W5 := ⟨(World.cell?_of_block (a := ⟨g + 1, 0, none⟩) (k35 (g + 1) (by omega))).trans l0, (World.cell?_of_block (a := ⟨g + 1, 1, none⟩) (k35 (g + 1) (by omega))).trans l1, (World.cell?_of_block (a := ⟨g + 1 + 1, 0, none⟩) (k35 (g + 1 + 1) (by omega))).trans m0, (World.cell?_of_block (a := ⟨g + 1 + 1, 1, none⟩) (k35 (g + 1 + 1) (by omega))).trans m1, (World.cell?_of_block (a := ⟨g + 3, 4 + ka, none⟩) (k35 (g + 3) (by omega))).trans vx3⟩
  have b35 : Hid (Below (g + 5) W3 W5) := Lib.hid ⟨on5.os.trans b34.os, on5.tape.trans b34.tape, on5.output.trans b34.output, Nat.le_trans b34.size on5.size, k35⟩
  clear e5 f0 f1 f2 f3 f4 f5 c0 c1 c2 c3 c4 c5 k35 s34 hq4 on5 b34
  refine hK.out _ _ z5 (fun hHeld => ?_)
  clear hK K
  (try simp only [Act.put, List.setIfInBounds_toArray, List.set_cons_zero, List.set_cons_succ])
  refine wpAnyH_done (by kernel_rfl) ?_ _
  (try simp only [List.getElem_toArray, List.getElem_cons_succ, List.getElem_cons_zero, Act.put, List.setIfInBounds_toArray, List.set_cons_zero, List.set_cons_succ])
  obtain ⟨l0', l1', m0', m1', -⟩ := z5
  have vy5 := (World.cell?_of_block (a := ⟨g + 4, 4 + kb, none⟩) (b35.out.block (g + 4) (by omega))).trans vy3
  obtain ⟨c0, c1, c2, c3, c4, c5⟩ := row6 hq5
  have f1 := Lib.frozen_of_heap hq5 1
  have wkb : IntKind.i64.wrap (kb : Int) = (kb : Int) := IntWalk.i64_in _ (by omega)
  have dkb : ¬ (2 : Int) ≤ (kb : Int) := by omega
  replace hq5 := Lib.hid hq5
  clear l0 l1 m0 m1 vx3 vy3 z0 hHeld bg1 bg2 z4
  by_cases hc : qy < qx
  · have dc : decide (qy < qx) = true := decide_eq_true hc
    obtain ⟨nq, enq⟩ : ∃ z, qy = z := ⟨_, rfl⟩
    have hnq : Hid (nq = min qx qy) := Lib.hid (by omega)
    have hq7' : (W5.setCell ⟨g + 5, 1, none⟩ (.int .i64 nq)).drew.heap[g + 5]? = some (.cells #[.int .i64 pr, .int .i64 nq, .int .i64 (a : Int), .int .i64 ((ka : Int) + 1), .int .i64 (b : Int), .int .i64 ((kb : Int) + 1)] 64 (0, 0)) := heap_setCell_same W5 (g + 5) 1 _ _ _ hq5.out
    have on7 : Only (fun k => k = g + 5) W5 (W5.setCell ⟨g + 5, 1, none⟩ (.int .i64 nq)).drew := have o := set_only W5 (g + 5) 1 (.int .i64 nq); ⟨o.os, o.tape, o.output, o.size, o.block⟩
    obtain ⟨W7, e7⟩ : ∃ W, (W5.setCell ⟨g + 5, 1, none⟩ (.int .i64 nq)).drew = W := ⟨_, rfl⟩
    rw [e7] at hq7' on7
    have b57 : Below (g + 5) W5 W7 := on7.below (by have := b35.out.size; have := s3.out; omega) (fun k hk e => by omega)
    have hq7 := Lib.hid hq7'
    rw [← enq] at e7
    replace enq := Lib.hid enq
    replace e7 := Lib.hid e7
    go_upto_region 15 with (fail)
    go_region
    go_upto_region 17 with (fail)
    rw [e7.out]
    have b37 := b35.out.trans b57
    have hL7 : Hid (HV fQt W7 AL nL L) := Lib.hid (hL3.out.below (by rw [s3.out]; exact b37))
    have bl7 : Hid (Below g w W7) := Lib.hid (bl3.out.trans (b37.mono (by omega)))
    clear e7 b37 b57 c0 c1 c2 c3 c4 c5 f1 vy5 l0' l1' m0' m1' dc hc b35 hq5
    have hK17 : Hid (∀ U, Below W7.heap.size W7 U → (fun W : World => W.cell? ⟨g + 5, 0, none⟩ = some (.int .i64 pr) ∧ W.cell? ⟨g + 5, 1, none⟩ = some (.int .i64 nq) ∧ W.cell? ⟨g + 5, 2, none⟩ = some (.int .i64 (a : Int)) ∧ W.cell? ⟨g + 5, 3, none⟩ = some (.int .i64 ((ka : Int) + 1)) ∧ W.cell? ⟨g + 5, 4, none⟩ = some (.int .i64 (b : Int)) ∧ W.cell? ⟨g + 5, 5, none⟩ = some (.int .i64 ((kb : Int) + 1)) ∧ Below W7.heap.size W7 W) U) := Lib.hid (fun U bu => by
      obtain ⟨q0, q1', q2, q3, q4, q5⟩ := row6 ((bu.block (g + 5) (Array.getElem?_eq_some_iff.1 hq7.out).1).trans hq7.out)
      exact ⟨q0, q1', q2, q3, q4, q5, bu⟩)
    have b70 : Below W7.heap.size W7 W7.drew := (Below.refl _ W7).drew
    have zz0 := hK17.out _ b70
    obtain ⟨U0, eU0⟩ : ∃ W, W7.drew = W := ⟨_, rfl⟩
    refine wp_region_held_drew (S := (fun W : World => W.cell? ⟨g + 5, 0, none⟩ = some (.int .i64 pr) ∧ W.cell? ⟨g + 5, 1, none⟩ = some (.int .i64 nq) ∧ W.cell? ⟨g + 5, 2, none⟩ = some (.int .i64 (a : Int)) ∧ W.cell? ⟨g + 5, 3, none⟩ = some (.int .i64 ((ka : Int) + 1)) ∧ W.cell? ⟨g + 5, 4, none⟩ = some (.int .i64 (b : Int)) ∧ W.cell? ⟨g + 5, 5, none⟩ = some (.int .i64 ((kb : Int) + 1)) ∧ Below W7.heap.size W7 W)) (by kernel_rfl) zz0 (fun hHeld => ?_)
    rw [eU0] at b70 zz0 hHeld ⊢
    clear eU0
    refine wpAnyH_take (i := 1) (v := .slice AL nL cL) rfl (by kernel_rfl) (by kernel_rfl) (by kernel_rfl) (fun _ _ _ h => h) (Or.inl ⟨by kernel_rfl, fun W hSw => ?_⟩) (by assumption) ?_
    · (try dsimp only at hSw)
      go_simp
    (try simp only [Act.put, List.setIfInBounds_toArray, List.set_cons_zero, List.set_cons_succ])
    refine wpAnyH_take (i := 3) (v := .agg #[.int .i64 pr, .int .i64 nq, .int .i64 (a : Int), .int .i64 ((ka : Int) + 1), .int .i64 (b : Int), .int .i64 ((kb : Int) + 1)]) rfl (by kernel_rfl) (by kernel_rfl) (by kernel_rfl) (fun _ _ _ h => h) (Or.inl ⟨by kernel_rfl, fun W hSw => ?_⟩) (by assumption) ?_
    · (try dsimp only at hSw)
      go_simp
    (try simp only [Act.put, List.setIfInBounds_toArray, List.set_cons_zero, List.set_cons_succ])
    refine wpAnyH_ready (rs := [0, 4]) (by kernel_rfl) (by simp) ?_
    refine AllReadyH.cons rfl (fun K hK => ?_) (AllReadyH.cons rfl (fun K hK => ?_) AllReadyH.nil)
    · go_simp
      have bU1 : Below W7.heap.size W7 (U0.alloc (.cells #[] 64)) := b70.alloc b70.size _
      have E1 := own_empty (fm := fQt) 64 U0 W7.heap.size b70.size
      obtain ⟨gE, eg⟩ : ∃ x, U0.heap.size = x := ⟨_, rfl⟩
      obtain ⟨U1, eU⟩ : ∃ W, U0.alloc (.cells #[] 64) = W := ⟨_, rfl⟩
      have ltE : gE < U1.heap.size := by rw [← eU, World.size_alloc, eg]; omega
      rw [eU] at bU1 E1 ⊢
      rw [eg] at E1 ⊢
      clear eU eg
      have zz1 := hK17.out _ bU1
      refine hK.out _ _ zz1 (fun hHeld => ?_)
      clear hK K
      (try simp only [Act.put, List.setIfInBounds_toArray, List.set_cons_zero, List.set_cons_succ])
      refine wpAnyH_ready (rs := [2, 4]) (by kernel_rfl) (by simp) ?_
      refine AllReadyH.cons rfl (fun K hK => ?_) (AllReadyH.cons rfl (fun K hK => ?_) AllReadyH.nil)
      · rw [if_pos (by kernel_rfl)]
        refine wp_onto_g (fm := fQt) (T := 64) (.tmp 114) (.tmp 115) 57 rfl W7.heap.size i0 (.agg #[.int .i64 0, .int .i64 0, .int .i64 0, .int .i64 0, .int .i64 0, .int .i64 0]) 48 Try.underlying57 hi0 hz0 hz1 hz2 rfl (by omega) (Value.slice (some ⟨gE, 0, none⟩) 0 0) [] (by rfl) E1 AL nL cL L (by rfl) (hL7.out.below bU1) hLn.out (by simp; omega) bU1.size (fun v2 U2 E2 G2 O2 => ?_)
        have bU2 : Below W7.heap.size W7 U2 := bU1.grown G2 bU1.size (fun q hq => (E1.lt q hq).1)
        have zz2 := hK17.out _ bU2
        clear G2 O2
        refine hK.out _ _ zz2 (fun hHeld => ?_)
        clear hK K
        (try simp only [Act.put, List.setIfInBounds_toArray, List.set_cons_zero, List.set_cons_succ])
        refine wpAnyH_ready (rs := [4]) (by kernel_rfl) (by simp) ?_
        refine AllReadyH.cons rfl (fun K hK => ?_) AllReadyH.nil
        go_simp
        have bU3 : Below W7.heap.size W7 (U2.alloc (.cells #[.int .i64 pr, .int .i64 nq, .int .i64 (a : Int), .int .i64 ((ka : Int) + 1), .int .i64 (b : Int), .int .i64 ((kb : Int) + 1)] 64)) := bU2.alloc bU2.size _
        have Q3 := q_lit U2 pr nq (a : Int) ((ka : Int) + 1) (b : Int) ((kb : Int) + 1) 64
        have E3 := E2.below ((Below.refl U2.heap.size U2).alloc (Nat.le_refl _) (.cells #[.int .i64 pr, .int .i64 nq, .int .i64 (a : Int), .int .i64 ((ka : Int) + 1), .int .i64 (b : Int), .int .i64 ((kb : Int) + 1)] 64))
        obtain ⟨gQ, eg⟩ : ∃ x, U2.heap.size = x := ⟨_, rfl⟩
        obtain ⟨U3, eU⟩ : ∃ W, U2.alloc (.cells #[.int .i64 pr, .int .i64 nq, .int .i64 (a : Int), .int .i64 ((ka : Int) + 1), .int .i64 (b : Int), .int .i64 ((kb : Int) + 1)] 64) = W := ⟨_, rfl⟩
        have ltQ : gQ < U3.heap.size := by rw [← eU, World.size_alloc, eg]; omega
        rw [eU] at bU3 E3 Q3 ⊢
        rw [eg] at Q3 ⊢
        clear eU eg
        have zz3 := hK17.out _ bU3
        refine hK.out _ _ zz3 (fun hHeld => ?_)
        clear hK K
        (try simp only [Act.put, List.setIfInBounds_toArray, List.set_cons_zero, List.set_cons_succ])
        refine wpAnyH_ready (rs := [5]) (by kernel_rfl) (by simp) ?_
        refine AllReadyH.cons rfl (fun K hK => ?_) AllReadyH.nil
        rw [if_pos (by kernel_rfl)]
        refine wp_onto_g (fm := fQt) (T := 64) (.tmp 116) (.tmp 118) 57 rfl W7.heap.size i0 (.agg #[.int .i64 0, .int .i64 0, .int .i64 0, .int .i64 0, .int .i64 0, .int .i64 0]) 48 Try.underlying57 hi0 hz0 hz1 hz2 rfl (by omega) v2 ([] ++ L) (by rfl) E3 (some ⟨gQ, 0, none⟩) 1 1 [⟨pr, nq, (a : Int), (ka : Int) + 1, (b : Int), (kb : Int) + 1⟩] (by rfl) Q3 (fun e => by cases e) (by simp; omega) bU3.size (fun v4 U4 E4 G4 O4 => ?_)
        have bU4 : Below W7.heap.size W7 U4 := bU3.grown G4 bU3.size (fun q hq => (E3.lt q hq).1)
        have zz4 := hK17.out _ bU4
        clear G4 O4
        refine hK.out _ _ zz4 (fun hHeld => ?_)
        clear hK K
        (try simp only [Act.put, List.setIfInBounds_toArray, List.set_cons_zero, List.set_cons_succ])
        refine wpAnyH_take (i := 6) (v := v4) rfl (by kernel_rfl) (by kernel_rfl) (by kernel_rfl) (fun _ _ _ h => h) (Or.inl ⟨by kernel_rfl, fun W hSw => ?_⟩) (by assumption) ?_
        · (try dsimp only at hSw)
          go_simp
        (try simp only [Act.put, List.setIfInBounds_toArray, List.set_cons_zero, List.set_cons_succ])
        refine wpAnyH_done (by kernel_rfl) ?_ _
        (try simp only [List.getElem_toArray, List.getElem_cons_succ, List.getElem_cons_zero, Act.put, List.setIfInBounds_toArray, List.set_cons_zero, List.set_cons_succ])
        clear hHeld
        have fin : Hid (AnsQ base w (L ++ J.toList) (.returned v4) U4) := Lib.hid (by
          have eL : ([] ++ L ++ [⟨pr, nq, (a : Int), (ka : Int) + 1, (b : Int), (kb : Int) + 1⟩] : List Qt) = L ++ J.toList := by rw [hJs.out, ← hnq.out]; simp
          have EE := E4
          rw [eL] at EE
          obtain ⟨A9, c9, e9, h9, l9, m9, n9, at9⟩ := EE.slice
          rw [e9]
          have q1 := bl7.out.size
          have q2 := eg.out
          exact ⟨A9, _, c9, rfl, h9, l9, m9, n9, (fun ad e => by have := (at9 ad e).2.2.1; omega), by rw [eg.out]; exact bl7.out.trans (bU4.mono (by omega))⟩)
        go_wp2_with fail
        go_ret
        exact fin.out
      · go_simp
        have bU2 : Below W7.heap.size W7 (U1.alloc (.cells #[.int .i64 pr, .int .i64 nq, .int .i64 (a : Int), .int .i64 ((ka : Int) + 1), .int .i64 (b : Int), .int .i64 ((kb : Int) + 1)] 64)) := bU1.alloc bU1.size _
        have Q2 := q_lit U1 pr nq (a : Int) ((ka : Int) + 1) (b : Int) ((kb : Int) + 1) 64
        have E2 := E1.below ((Below.refl U1.heap.size U1).alloc (Nat.le_refl _) (.cells #[.int .i64 pr, .int .i64 nq, .int .i64 (a : Int), .int .i64 ((ka : Int) + 1), .int .i64 (b : Int), .int .i64 ((kb : Int) + 1)] 64))
        obtain ⟨gQ, eg⟩ : ∃ x, U1.heap.size = x := ⟨_, rfl⟩
        obtain ⟨U2, eU⟩ : ∃ W, U1.alloc (.cells #[.int .i64 pr, .int .i64 nq, .int .i64 (a : Int), .int .i64 ((ka : Int) + 1), .int .i64 (b : Int), .int .i64 ((kb : Int) + 1)] 64) = W := ⟨_, rfl⟩
        have ltQ : gQ < U2.heap.size := by rw [← eU, World.size_alloc, eg]; omega
        have ne : gQ ≠ gE := by omega
        rw [eU] at bU2 E2 Q2 ⊢
        rw [eg] at Q2 ⊢
        clear eU eg
        have zz2 := hK17.out _ bU2
        refine hK.out _ _ zz2 (fun hHeld => ?_)
        clear hK K
        (try simp only [Act.put, List.setIfInBounds_toArray, List.set_cons_zero, List.set_cons_succ])
        refine wpAnyH_ready (rs := [2]) (by kernel_rfl) (by simp) ?_
        refine AllReadyH.cons rfl (fun K hK => ?_) AllReadyH.nil
        rw [if_pos (by kernel_rfl)]
        refine wp_onto_g (fm := fQt) (T := 64) (.tmp 114) (.tmp 115) 57 rfl W7.heap.size i0 (.agg #[.int .i64 0, .int .i64 0, .int .i64 0, .int .i64 0, .int .i64 0, .int .i64 0]) 48 Try.underlying57 hi0 hz0 hz1 hz2 rfl (by omega) (Value.slice (some ⟨gE, 0, none⟩) 0 0) [] (by rfl) E2 AL nL cL L (by rfl) (hL7.out.below bU2) hLn.out (by simp; omega) bU2.size (fun v3 U3 E3 G3 O3 => ?_)
        have bU3 : Below W7.heap.size W7 U3 := bU2.grown G3 bU2.size (fun q hq => (E2.lt q hq).1)
        have Q3 := Q2.only (only_grown G3) (fun bb off e e2 => by injection e with e; injection e with e1 e3; injection e2 with e2; exact ne (e1.trans e2))
        have zz3 := hK17.out _ bU3
        clear G3 O3
        refine hK.out _ _ zz3 (fun hHeld => ?_)
        clear hK K
        (try simp only [Act.put, List.setIfInBounds_toArray, List.set_cons_zero, List.set_cons_succ])
        refine wpAnyH_ready (rs := [5]) (by kernel_rfl) (by simp) ?_
        refine AllReadyH.cons rfl (fun K hK => ?_) AllReadyH.nil
        rw [if_pos (by kernel_rfl)]
        refine wp_onto_g (fm := fQt) (T := 64) (.tmp 116) (.tmp 118) 57 rfl W7.heap.size i0 (.agg #[.int .i64 0, .int .i64 0, .int .i64 0, .int .i64 0, .int .i64 0, .int .i64 0]) 48 Try.underlying57 hi0 hz0 hz1 hz2 rfl (by omega) v3 ([] ++ L) (by rfl) E3 (some ⟨gQ, 0, none⟩) 1 1 [⟨pr, nq, (a : Int), (ka : Int) + 1, (b : Int), (kb : Int) + 1⟩] (by rfl) Q3 (fun e => by cases e) (by simp; omega) bU3.size (fun v4 U4 E4 G4 O4 => ?_)
        have bU4 : Below W7.heap.size W7 U4 := bU3.grown G4 bU3.size (fun q hq => (E3.lt q hq).1)
        have zz4 := hK17.out _ bU4
        clear G4 O4
        refine hK.out _ _ zz4 (fun hHeld => ?_)
        clear hK K
        (try simp only [Act.put, List.setIfInBounds_toArray, List.set_cons_zero, List.set_cons_succ])
        refine wpAnyH_take (i := 6) (v := v4) rfl (by kernel_rfl) (by kernel_rfl) (by kernel_rfl) (fun _ _ _ h => h) (Or.inl ⟨by kernel_rfl, fun W hSw => ?_⟩) (by assumption) ?_
        · (try dsimp only at hSw)
          go_simp
        (try simp only [Act.put, List.setIfInBounds_toArray, List.set_cons_zero, List.set_cons_succ])
        refine wpAnyH_done (by kernel_rfl) ?_ _
        (try simp only [List.getElem_toArray, List.getElem_cons_succ, List.getElem_cons_zero, Act.put, List.setIfInBounds_toArray, List.set_cons_zero, List.set_cons_succ])
        clear hHeld
        have fin : Hid (AnsQ base w (L ++ J.toList) (.returned v4) U4) := Lib.hid (by
          have eL : ([] ++ L ++ [⟨pr, nq, (a : Int), (ka : Int) + 1, (b : Int), (kb : Int) + 1⟩] : List Qt) = L ++ J.toList := by rw [hJs.out, ← hnq.out]; simp
          have EE := E4
          rw [eL] at EE
          obtain ⟨A9, c9, e9, h9, l9, m9, n9, at9⟩ := EE.slice
          rw [e9]
          have q1 := bl7.out.size
          have q2 := eg.out
          exact ⟨A9, _, c9, rfl, h9, l9, m9, n9, (fun ad e => by have := (at9 ad e).2.2.1; omega), by rw [eg.out]; exact bl7.out.trans (bU4.mono (by omega))⟩)
        go_wp2_with fail
        go_ret
        exact fin.out
    · go_simp
      have bU1 : Below W7.heap.size W7 (U0.alloc (.cells #[.int .i64 pr, .int .i64 nq, .int .i64 (a : Int), .int .i64 ((ka : Int) + 1), .int .i64 (b : Int), .int .i64 ((kb : Int) + 1)] 64)) := b70.alloc b70.size _
      have Q1 := q_lit U0 pr nq (a : Int) ((ka : Int) + 1) (b : Int) ((kb : Int) + 1) 64
      obtain ⟨gQ, eg⟩ : ∃ x, U0.heap.size = x := ⟨_, rfl⟩
      obtain ⟨U1, eU⟩ : ∃ W, U0.alloc (.cells #[.int .i64 pr, .int .i64 nq, .int .i64 (a : Int), .int .i64 ((ka : Int) + 1), .int .i64 (b : Int), .int .i64 ((kb : Int) + 1)] 64) = W := ⟨_, rfl⟩
      have ltQ : gQ < U1.heap.size := by rw [← eU, World.size_alloc, eg]; omega
      rw [eU] at bU1 Q1 ⊢
      rw [eg] at Q1 ⊢
      clear eU eg
      have zz1 := hK17.out _ bU1
      refine hK.out _ _ zz1 (fun hHeld => ?_)
      clear hK K
      (try simp only [Act.put, List.setIfInBounds_toArray, List.set_cons_zero, List.set_cons_succ])
      refine wpAnyH_ready (rs := [0]) (by kernel_rfl) (by simp) ?_
      refine AllReadyH.cons rfl (fun K hK => ?_) AllReadyH.nil
      go_simp
      have bU2 : Below W7.heap.size W7 (U1.alloc (.cells #[] 64)) := bU1.alloc bU1.size _
      have E2 := own_empty (fm := fQt) 64 U1 W7.heap.size bU1.size
      have Q2 := Q1.below ((Below.refl U1.heap.size U1).alloc (Nat.le_refl _) (.cells #[] 64))
      obtain ⟨gE, eg⟩ : ∃ x, U1.heap.size = x := ⟨_, rfl⟩
      obtain ⟨U2, eU⟩ : ∃ W, U1.alloc (.cells #[] 64) = W := ⟨_, rfl⟩
      have ltE : gE < U2.heap.size := by rw [← eU, World.size_alloc, eg]; omega
      have ne : gQ ≠ gE := by omega
      rw [eU] at bU2 E2 Q2 ⊢
      rw [eg] at E2 ⊢
      clear eU eg
      have zz2 := hK17.out _ bU2
      refine hK.out _ _ zz2 (fun hHeld => ?_)
      clear hK K
      (try simp only [Act.put, List.setIfInBounds_toArray, List.set_cons_zero, List.set_cons_succ])
      refine wpAnyH_ready (rs := [2]) (by kernel_rfl) (by simp) ?_
      refine AllReadyH.cons rfl (fun K hK => ?_) AllReadyH.nil
      rw [if_pos (by kernel_rfl)]
      refine wp_onto_g (fm := fQt) (T := 64) (.tmp 114) (.tmp 115) 57 rfl W7.heap.size i0 (.agg #[.int .i64 0, .int .i64 0, .int .i64 0, .int .i64 0, .int .i64 0, .int .i64 0]) 48 Try.underlying57 hi0 hz0 hz1 hz2 rfl (by omega) (Value.slice (some ⟨gE, 0, none⟩) 0 0) [] (by rfl) E2 AL nL cL L (by rfl) (hL7.out.below bU2) hLn.out (by simp; omega) bU2.size (fun v3 U3 E3 G3 O3 => ?_)
      have bU3 : Below W7.heap.size W7 U3 := bU2.grown G3 bU2.size (fun q hq => (E2.lt q hq).1)
      have Q3 := Q2.only (only_grown G3) (fun bb off e e2 => by injection e with e; injection e with e1 e3; injection e2 with e2; exact ne (e1.trans e2))
      have zz3 := hK17.out _ bU3
      clear G3 O3
      refine hK.out _ _ zz3 (fun hHeld => ?_)
      clear hK K
      (try simp only [Act.put, List.setIfInBounds_toArray, List.set_cons_zero, List.set_cons_succ])
      refine wpAnyH_ready (rs := [5]) (by kernel_rfl) (by simp) ?_
      refine AllReadyH.cons rfl (fun K hK => ?_) AllReadyH.nil
      rw [if_pos (by kernel_rfl)]
      refine wp_onto_g (fm := fQt) (T := 64) (.tmp 116) (.tmp 118) 57 rfl W7.heap.size i0 (.agg #[.int .i64 0, .int .i64 0, .int .i64 0, .int .i64 0, .int .i64 0, .int .i64 0]) 48 Try.underlying57 hi0 hz0 hz1 hz2 rfl (by omega) v3 ([] ++ L) (by rfl) E3 (some ⟨gQ, 0, none⟩) 1 1 [⟨pr, nq, (a : Int), (ka : Int) + 1, (b : Int), (kb : Int) + 1⟩] (by rfl) Q3 (fun e => by cases e) (by simp; omega) bU3.size (fun v4 U4 E4 G4 O4 => ?_)
      have bU4 : Below W7.heap.size W7 U4 := bU3.grown G4 bU3.size (fun q hq => (E3.lt q hq).1)
      have zz4 := hK17.out _ bU4
      clear G4 O4
      refine hK.out _ _ zz4 (fun hHeld => ?_)
      clear hK K
      (try simp only [Act.put, List.setIfInBounds_toArray, List.set_cons_zero, List.set_cons_succ])
      refine wpAnyH_take (i := 6) (v := v4) rfl (by kernel_rfl) (by kernel_rfl) (by kernel_rfl) (fun _ _ _ h => h) (Or.inl ⟨by kernel_rfl, fun W hSw => ?_⟩) (by assumption) ?_
      · (try dsimp only at hSw)
        go_simp
      (try simp only [Act.put, List.setIfInBounds_toArray, List.set_cons_zero, List.set_cons_succ])
      refine wpAnyH_done (by kernel_rfl) ?_ _
      (try simp only [List.getElem_toArray, List.getElem_cons_succ, List.getElem_cons_zero, Act.put, List.setIfInBounds_toArray, List.set_cons_zero, List.set_cons_succ])
      clear hHeld
      have fin : Hid (AnsQ base w (L ++ J.toList) (.returned v4) U4) := Lib.hid (by
        have eL : ([] ++ L ++ [⟨pr, nq, (a : Int), (ka : Int) + 1, (b : Int), (kb : Int) + 1⟩] : List Qt) = L ++ J.toList := by rw [hJs.out, ← hnq.out]; simp
        have EE := E4
        rw [eL] at EE
        obtain ⟨A9, c9, e9, h9, l9, m9, n9, at9⟩ := EE.slice
        rw [e9]
        have q1 := bl7.out.size
        have q2 := eg.out
        exact ⟨A9, _, c9, rfl, h9, l9, m9, n9, (fun ad e => by have := (at9 ad e).2.2.1; omega), by rw [eg.out]; exact bl7.out.trans (bU4.mono (by omega))⟩)
      go_wp2_with fail
      go_ret
      exact fin.out
  · have dc : decide (qy < qx) = false := decide_eq_false hc
    obtain ⟨nq, enq⟩ : ∃ z, qx = z := ⟨_, rfl⟩
    have hnq : Hid (nq = min qx qy) := Lib.hid (by omega)
    have bdd : Below W5.heap.size W5 W5.drew := (Below.refl _ W5).drew
    obtain ⟨W7, e7⟩ : ∃ W, W5.drew = W := ⟨_, rfl⟩
    rw [e7] at bdd
    have hq7 : Hid (W7.heap[g + 5]? = some (.cells #[.int .i64 pr, .int .i64 nq, .int .i64 (a : Int), .int .i64 ((ka : Int) + 1), .int .i64 (b : Int), .int .i64 ((kb : Int) + 1)] 64 (0, 0))) := Lib.hid (by rw [← enq]; exact (bdd.block _ (Array.getElem?_eq_some_iff.1 hq5.out).1).trans hq5.out)
    have b57 : Below (g + 5) W5 W7 := bdd.mono (by have := b35.out.size; have := s3.out; omega)
    replace enq := Lib.hid enq
    replace e7 := Lib.hid e7
    go_upto_region 15 with (fail)
    go_region
    go_upto_region 17 with (fail)
    rw [e7.out]
    have b37 := b35.out.trans b57
    have hL7 : Hid (HV fQt W7 AL nL L) := Lib.hid (hL3.out.below (by rw [s3.out]; exact b37))
    have bl7 : Hid (Below g w W7) := Lib.hid (bl3.out.trans (b37.mono (by omega)))
    clear e7 b37 b57 c0 c1 c2 c3 c4 c5 f1 vy5 l0' l1' m0' m1' dc hc b35 hq5
    have hK17 : Hid (∀ U, Below W7.heap.size W7 U → (fun W : World => W.cell? ⟨g + 5, 0, none⟩ = some (.int .i64 pr) ∧ W.cell? ⟨g + 5, 1, none⟩ = some (.int .i64 nq) ∧ W.cell? ⟨g + 5, 2, none⟩ = some (.int .i64 (a : Int)) ∧ W.cell? ⟨g + 5, 3, none⟩ = some (.int .i64 ((ka : Int) + 1)) ∧ W.cell? ⟨g + 5, 4, none⟩ = some (.int .i64 (b : Int)) ∧ W.cell? ⟨g + 5, 5, none⟩ = some (.int .i64 ((kb : Int) + 1)) ∧ Below W7.heap.size W7 W) U) := Lib.hid (fun U bu => by
      obtain ⟨q0, q1', q2, q3, q4, q5⟩ := row6 ((bu.block (g + 5) (Array.getElem?_eq_some_iff.1 hq7.out).1).trans hq7.out)
      exact ⟨q0, q1', q2, q3, q4, q5, bu⟩)
    have b70 : Below W7.heap.size W7 W7.drew := (Below.refl _ W7).drew
    have zz0 := hK17.out _ b70
    obtain ⟨U0, eU0⟩ : ∃ W, W7.drew = W := ⟨_, rfl⟩
    refine wp_region_held_drew (S := (fun W : World => W.cell? ⟨g + 5, 0, none⟩ = some (.int .i64 pr) ∧ W.cell? ⟨g + 5, 1, none⟩ = some (.int .i64 nq) ∧ W.cell? ⟨g + 5, 2, none⟩ = some (.int .i64 (a : Int)) ∧ W.cell? ⟨g + 5, 3, none⟩ = some (.int .i64 ((ka : Int) + 1)) ∧ W.cell? ⟨g + 5, 4, none⟩ = some (.int .i64 (b : Int)) ∧ W.cell? ⟨g + 5, 5, none⟩ = some (.int .i64 ((kb : Int) + 1)) ∧ Below W7.heap.size W7 W)) (by kernel_rfl) zz0 (fun hHeld => ?_)
    rw [eU0] at b70 zz0 hHeld ⊢
    clear eU0
    refine wpAnyH_take (i := 1) (v := .slice AL nL cL) rfl (by kernel_rfl) (by kernel_rfl) (by kernel_rfl) (fun _ _ _ h => h) (Or.inl ⟨by kernel_rfl, fun W hSw => ?_⟩) (by assumption) ?_
    · (try dsimp only at hSw)
      go_simp
    (try simp only [Act.put, List.setIfInBounds_toArray, List.set_cons_zero, List.set_cons_succ])
    refine wpAnyH_take (i := 3) (v := .agg #[.int .i64 pr, .int .i64 nq, .int .i64 (a : Int), .int .i64 ((ka : Int) + 1), .int .i64 (b : Int), .int .i64 ((kb : Int) + 1)]) rfl (by kernel_rfl) (by kernel_rfl) (by kernel_rfl) (fun _ _ _ h => h) (Or.inl ⟨by kernel_rfl, fun W hSw => ?_⟩) (by assumption) ?_
    · (try dsimp only at hSw)
      go_simp
    (try simp only [Act.put, List.setIfInBounds_toArray, List.set_cons_zero, List.set_cons_succ])
    refine wpAnyH_ready (rs := [0, 4]) (by kernel_rfl) (by simp) ?_
    refine AllReadyH.cons rfl (fun K hK => ?_) (AllReadyH.cons rfl (fun K hK => ?_) AllReadyH.nil)
    · go_simp
      have bU1 : Below W7.heap.size W7 (U0.alloc (.cells #[] 64)) := b70.alloc b70.size _
      have E1 := own_empty (fm := fQt) 64 U0 W7.heap.size b70.size
      obtain ⟨gE, eg⟩ : ∃ x, U0.heap.size = x := ⟨_, rfl⟩
      obtain ⟨U1, eU⟩ : ∃ W, U0.alloc (.cells #[] 64) = W := ⟨_, rfl⟩
      have ltE : gE < U1.heap.size := by rw [← eU, World.size_alloc, eg]; omega
      rw [eU] at bU1 E1 ⊢
      rw [eg] at E1 ⊢
      clear eU eg
      have zz1 := hK17.out _ bU1
      refine hK.out _ _ zz1 (fun hHeld => ?_)
      clear hK K
      (try simp only [Act.put, List.setIfInBounds_toArray, List.set_cons_zero, List.set_cons_succ])
      refine wpAnyH_ready (rs := [2, 4]) (by kernel_rfl) (by simp) ?_
      refine AllReadyH.cons rfl (fun K hK => ?_) (AllReadyH.cons rfl (fun K hK => ?_) AllReadyH.nil)
      · rw [if_pos (by kernel_rfl)]
        refine wp_onto_g (fm := fQt) (T := 64) (.tmp 114) (.tmp 115) 57 rfl W7.heap.size i0 (.agg #[.int .i64 0, .int .i64 0, .int .i64 0, .int .i64 0, .int .i64 0, .int .i64 0]) 48 Try.underlying57 hi0 hz0 hz1 hz2 rfl (by omega) (Value.slice (some ⟨gE, 0, none⟩) 0 0) [] (by rfl) E1 AL nL cL L (by rfl) (hL7.out.below bU1) hLn.out (by simp; omega) bU1.size (fun v2 U2 E2 G2 O2 => ?_)
        have bU2 : Below W7.heap.size W7 U2 := bU1.grown G2 bU1.size (fun q hq => (E1.lt q hq).1)
        have zz2 := hK17.out _ bU2
        clear G2 O2
        refine hK.out _ _ zz2 (fun hHeld => ?_)
        clear hK K
        (try simp only [Act.put, List.setIfInBounds_toArray, List.set_cons_zero, List.set_cons_succ])
        refine wpAnyH_ready (rs := [4]) (by kernel_rfl) (by simp) ?_
        refine AllReadyH.cons rfl (fun K hK => ?_) AllReadyH.nil
        go_simp
        have bU3 : Below W7.heap.size W7 (U2.alloc (.cells #[.int .i64 pr, .int .i64 nq, .int .i64 (a : Int), .int .i64 ((ka : Int) + 1), .int .i64 (b : Int), .int .i64 ((kb : Int) + 1)] 64)) := bU2.alloc bU2.size _
        have Q3 := q_lit U2 pr nq (a : Int) ((ka : Int) + 1) (b : Int) ((kb : Int) + 1) 64
        have E3 := E2.below ((Below.refl U2.heap.size U2).alloc (Nat.le_refl _) (.cells #[.int .i64 pr, .int .i64 nq, .int .i64 (a : Int), .int .i64 ((ka : Int) + 1), .int .i64 (b : Int), .int .i64 ((kb : Int) + 1)] 64))
        obtain ⟨gQ, eg⟩ : ∃ x, U2.heap.size = x := ⟨_, rfl⟩
        obtain ⟨U3, eU⟩ : ∃ W, U2.alloc (.cells #[.int .i64 pr, .int .i64 nq, .int .i64 (a : Int), .int .i64 ((ka : Int) + 1), .int .i64 (b : Int), .int .i64 ((kb : Int) + 1)] 64) = W := ⟨_, rfl⟩
        have ltQ : gQ < U3.heap.size := by rw [← eU, World.size_alloc, eg]; omega
        rw [eU] at bU3 E3 Q3 ⊢
        rw [eg] at Q3 ⊢
        clear eU eg
        have zz3 := hK17.out _ bU3
        refine hK.out _ _ zz3 (fun hHeld => ?_)
        clear hK K
        (try simp only [Act.put, List.setIfInBounds_toArray, List.set_cons_zero, List.set_cons_succ])
        refine wpAnyH_ready (rs := [5]) (by kernel_rfl) (by simp) ?_
        refine AllReadyH.cons rfl (fun K hK => ?_) AllReadyH.nil
        rw [if_pos (by kernel_rfl)]
        refine wp_onto_g (fm := fQt) (T := 64) (.tmp 116) (.tmp 118) 57 rfl W7.heap.size i0 (.agg #[.int .i64 0, .int .i64 0, .int .i64 0, .int .i64 0, .int .i64 0, .int .i64 0]) 48 Try.underlying57 hi0 hz0 hz1 hz2 rfl (by omega) v2 ([] ++ L) (by rfl) E3 (some ⟨gQ, 0, none⟩) 1 1 [⟨pr, nq, (a : Int), (ka : Int) + 1, (b : Int), (kb : Int) + 1⟩] (by rfl) Q3 (fun e => by cases e) (by simp; omega) bU3.size (fun v4 U4 E4 G4 O4 => ?_)
        have bU4 : Below W7.heap.size W7 U4 := bU3.grown G4 bU3.size (fun q hq => (E3.lt q hq).1)
        have zz4 := hK17.out _ bU4
        clear G4 O4
        refine hK.out _ _ zz4 (fun hHeld => ?_)
        clear hK K
        (try simp only [Act.put, List.setIfInBounds_toArray, List.set_cons_zero, List.set_cons_succ])
        refine wpAnyH_take (i := 6) (v := v4) rfl (by kernel_rfl) (by kernel_rfl) (by kernel_rfl) (fun _ _ _ h => h) (Or.inl ⟨by kernel_rfl, fun W hSw => ?_⟩) (by assumption) ?_
        · (try dsimp only at hSw)
          go_simp
        (try simp only [Act.put, List.setIfInBounds_toArray, List.set_cons_zero, List.set_cons_succ])
        refine wpAnyH_done (by kernel_rfl) ?_ _
        (try simp only [List.getElem_toArray, List.getElem_cons_succ, List.getElem_cons_zero, Act.put, List.setIfInBounds_toArray, List.set_cons_zero, List.set_cons_succ])
        clear hHeld
        have fin : Hid (AnsQ base w (L ++ J.toList) (.returned v4) U4) := Lib.hid (by
          have eL : ([] ++ L ++ [⟨pr, nq, (a : Int), (ka : Int) + 1, (b : Int), (kb : Int) + 1⟩] : List Qt) = L ++ J.toList := by rw [hJs.out, ← hnq.out]; simp
          have EE := E4
          rw [eL] at EE
          obtain ⟨A9, c9, e9, h9, l9, m9, n9, at9⟩ := EE.slice
          rw [e9]
          have q1 := bl7.out.size
          have q2 := eg.out
          exact ⟨A9, _, c9, rfl, h9, l9, m9, n9, (fun ad e => by have := (at9 ad e).2.2.1; omega), by rw [eg.out]; exact bl7.out.trans (bU4.mono (by omega))⟩)
        go_wp2_with fail
        go_ret
        exact fin.out
      · go_simp
        have bU2 : Below W7.heap.size W7 (U1.alloc (.cells #[.int .i64 pr, .int .i64 nq, .int .i64 (a : Int), .int .i64 ((ka : Int) + 1), .int .i64 (b : Int), .int .i64 ((kb : Int) + 1)] 64)) := bU1.alloc bU1.size _
        have Q2 := q_lit U1 pr nq (a : Int) ((ka : Int) + 1) (b : Int) ((kb : Int) + 1) 64
        have E2 := E1.below ((Below.refl U1.heap.size U1).alloc (Nat.le_refl _) (.cells #[.int .i64 pr, .int .i64 nq, .int .i64 (a : Int), .int .i64 ((ka : Int) + 1), .int .i64 (b : Int), .int .i64 ((kb : Int) + 1)] 64))
        obtain ⟨gQ, eg⟩ : ∃ x, U1.heap.size = x := ⟨_, rfl⟩
        obtain ⟨U2, eU⟩ : ∃ W, U1.alloc (.cells #[.int .i64 pr, .int .i64 nq, .int .i64 (a : Int), .int .i64 ((ka : Int) + 1), .int .i64 (b : Int), .int .i64 ((kb : Int) + 1)] 64) = W := ⟨_, rfl⟩
        have ltQ : gQ < U2.heap.size := by rw [← eU, World.size_alloc, eg]; omega
        have ne : gQ ≠ gE := by omega
        rw [eU] at bU2 E2 Q2 ⊢
        rw [eg] at Q2 ⊢
        clear eU eg
        have zz2 := hK17.out _ bU2
        refine hK.out _ _ zz2 (fun hHeld => ?_)
        clear hK K
        (try simp only [Act.put, List.setIfInBounds_toArray, List.set_cons_zero, List.set_cons_succ])
        refine wpAnyH_ready (rs := [2]) (by kernel_rfl) (by simp) ?_
        refine AllReadyH.cons rfl (fun K hK => ?_) AllReadyH.nil
        rw [if_pos (by kernel_rfl)]
        refine wp_onto_g (fm := fQt) (T := 64) (.tmp 114) (.tmp 115) 57 rfl W7.heap.size i0 (.agg #[.int .i64 0, .int .i64 0, .int .i64 0, .int .i64 0, .int .i64 0, .int .i64 0]) 48 Try.underlying57 hi0 hz0 hz1 hz2 rfl (by omega) (Value.slice (some ⟨gE, 0, none⟩) 0 0) [] (by rfl) E2 AL nL cL L (by rfl) (hL7.out.below bU2) hLn.out (by simp; omega) bU2.size (fun v3 U3 E3 G3 O3 => ?_)
        have bU3 : Below W7.heap.size W7 U3 := bU2.grown G3 bU2.size (fun q hq => (E2.lt q hq).1)
        have Q3 := Q2.only (only_grown G3) (fun bb off e e2 => by injection e with e; injection e with e1 e3; injection e2 with e2; exact ne (e1.trans e2))
        have zz3 := hK17.out _ bU3
        clear G3 O3
        refine hK.out _ _ zz3 (fun hHeld => ?_)
        clear hK K
        (try simp only [Act.put, List.setIfInBounds_toArray, List.set_cons_zero, List.set_cons_succ])
        refine wpAnyH_ready (rs := [5]) (by kernel_rfl) (by simp) ?_
        refine AllReadyH.cons rfl (fun K hK => ?_) AllReadyH.nil
        rw [if_pos (by kernel_rfl)]
        refine wp_onto_g (fm := fQt) (T := 64) (.tmp 116) (.tmp 118) 57 rfl W7.heap.size i0 (.agg #[.int .i64 0, .int .i64 0, .int .i64 0, .int .i64 0, .int .i64 0, .int .i64 0]) 48 Try.underlying57 hi0 hz0 hz1 hz2 rfl (by omega) v3 ([] ++ L) (by rfl) E3 (some ⟨gQ, 0, none⟩) 1 1 [⟨pr, nq, (a : Int), (ka : Int) + 1, (b : Int), (kb : Int) + 1⟩] (by rfl) Q3 (fun e => by cases e) (by simp; omega) bU3.size (fun v4 U4 E4 G4 O4 => ?_)
        have bU4 : Below W7.heap.size W7 U4 := bU3.grown G4 bU3.size (fun q hq => (E3.lt q hq).1)
        have zz4 := hK17.out _ bU4
        clear G4 O4
        refine hK.out _ _ zz4 (fun hHeld => ?_)
        clear hK K
        (try simp only [Act.put, List.setIfInBounds_toArray, List.set_cons_zero, List.set_cons_succ])
        refine wpAnyH_take (i := 6) (v := v4) rfl (by kernel_rfl) (by kernel_rfl) (by kernel_rfl) (fun _ _ _ h => h) (Or.inl ⟨by kernel_rfl, fun W hSw => ?_⟩) (by assumption) ?_
        · (try dsimp only at hSw)
          go_simp
        (try simp only [Act.put, List.setIfInBounds_toArray, List.set_cons_zero, List.set_cons_succ])
        refine wpAnyH_done (by kernel_rfl) ?_ _
        (try simp only [List.getElem_toArray, List.getElem_cons_succ, List.getElem_cons_zero, Act.put, List.setIfInBounds_toArray, List.set_cons_zero, List.set_cons_succ])
        clear hHeld
        have fin : Hid (AnsQ base w (L ++ J.toList) (.returned v4) U4) := Lib.hid (by
          have eL : ([] ++ L ++ [⟨pr, nq, (a : Int), (ka : Int) + 1, (b : Int), (kb : Int) + 1⟩] : List Qt) = L ++ J.toList := by rw [hJs.out, ← hnq.out]; simp
          have EE := E4
          rw [eL] at EE
          obtain ⟨A9, c9, e9, h9, l9, m9, n9, at9⟩ := EE.slice
          rw [e9]
          have q1 := bl7.out.size
          have q2 := eg.out
          exact ⟨A9, _, c9, rfl, h9, l9, m9, n9, (fun ad e => by have := (at9 ad e).2.2.1; omega), by rw [eg.out]; exact bl7.out.trans (bU4.mono (by omega))⟩)
        go_wp2_with fail
        go_ret
        exact fin.out
    · go_simp
      have bU1 : Below W7.heap.size W7 (U0.alloc (.cells #[.int .i64 pr, .int .i64 nq, .int .i64 (a : Int), .int .i64 ((ka : Int) + 1), .int .i64 (b : Int), .int .i64 ((kb : Int) + 1)] 64)) := b70.alloc b70.size _
      have Q1 := q_lit U0 pr nq (a : Int) ((ka : Int) + 1) (b : Int) ((kb : Int) + 1) 64
      obtain ⟨gQ, eg⟩ : ∃ x, U0.heap.size = x := ⟨_, rfl⟩
      obtain ⟨U1, eU⟩ : ∃ W, U0.alloc (.cells #[.int .i64 pr, .int .i64 nq, .int .i64 (a : Int), .int .i64 ((ka : Int) + 1), .int .i64 (b : Int), .int .i64 ((kb : Int) + 1)] 64) = W := ⟨_, rfl⟩
      have ltQ : gQ < U1.heap.size := by rw [← eU, World.size_alloc, eg]; omega
      rw [eU] at bU1 Q1 ⊢
      rw [eg] at Q1 ⊢
      clear eU eg
      have zz1 := hK17.out _ bU1
      refine hK.out _ _ zz1 (fun hHeld => ?_)
      clear hK K
      (try simp only [Act.put, List.setIfInBounds_toArray, List.set_cons_zero, List.set_cons_succ])
      refine wpAnyH_ready (rs := [0]) (by kernel_rfl) (by simp) ?_
      refine AllReadyH.cons rfl (fun K hK => ?_) AllReadyH.nil
      go_simp
      have bU2 : Below W7.heap.size W7 (U1.alloc (.cells #[] 64)) := bU1.alloc bU1.size _
      have E2 := own_empty (fm := fQt) 64 U1 W7.heap.size bU1.size
      have Q2 := Q1.below ((Below.refl U1.heap.size U1).alloc (Nat.le_refl _) (.cells #[] 64))
      obtain ⟨gE, eg⟩ : ∃ x, U1.heap.size = x := ⟨_, rfl⟩
      obtain ⟨U2, eU⟩ : ∃ W, U1.alloc (.cells #[] 64) = W := ⟨_, rfl⟩
      have ltE : gE < U2.heap.size := by rw [← eU, World.size_alloc, eg]; omega
      have ne : gQ ≠ gE := by omega
      rw [eU] at bU2 E2 Q2 ⊢
      rw [eg] at E2 ⊢
      clear eU eg
      have zz2 := hK17.out _ bU2
      refine hK.out _ _ zz2 (fun hHeld => ?_)
      clear hK K
      (try simp only [Act.put, List.setIfInBounds_toArray, List.set_cons_zero, List.set_cons_succ])
      refine wpAnyH_ready (rs := [2]) (by kernel_rfl) (by simp) ?_
      refine AllReadyH.cons rfl (fun K hK => ?_) AllReadyH.nil
      rw [if_pos (by kernel_rfl)]
      refine wp_onto_g (fm := fQt) (T := 64) (.tmp 114) (.tmp 115) 57 rfl W7.heap.size i0 (.agg #[.int .i64 0, .int .i64 0, .int .i64 0, .int .i64 0, .int .i64 0, .int .i64 0]) 48 Try.underlying57 hi0 hz0 hz1 hz2 rfl (by omega) (Value.slice (some ⟨gE, 0, none⟩) 0 0) [] (by rfl) E2 AL nL cL L (by rfl) (hL7.out.below bU2) hLn.out (by simp; omega) bU2.size (fun v3 U3 E3 G3 O3 => ?_)
      have bU3 : Below W7.heap.size W7 U3 := bU2.grown G3 bU2.size (fun q hq => (E2.lt q hq).1)
      have Q3 := Q2.only (only_grown G3) (fun bb off e e2 => by injection e with e; injection e with e1 e3; injection e2 with e2; exact ne (e1.trans e2))
      have zz3 := hK17.out _ bU3
      clear G3 O3
      refine hK.out _ _ zz3 (fun hHeld => ?_)
      clear hK K
      (try simp only [Act.put, List.setIfInBounds_toArray, List.set_cons_zero, List.set_cons_succ])
      refine wpAnyH_ready (rs := [5]) (by kernel_rfl) (by simp) ?_
      refine AllReadyH.cons rfl (fun K hK => ?_) AllReadyH.nil
      rw [if_pos (by kernel_rfl)]
      refine wp_onto_g (fm := fQt) (T := 64) (.tmp 116) (.tmp 118) 57 rfl W7.heap.size i0 (.agg #[.int .i64 0, .int .i64 0, .int .i64 0, .int .i64 0, .int .i64 0, .int .i64 0]) 48 Try.underlying57 hi0 hz0 hz1 hz2 rfl (by omega) v3 ([] ++ L) (by rfl) E3 (some ⟨gQ, 0, none⟩) 1 1 [⟨pr, nq, (a : Int), (ka : Int) + 1, (b : Int), (kb : Int) + 1⟩] (by rfl) Q3 (fun e => by cases e) (by simp; omega) bU3.size (fun v4 U4 E4 G4 O4 => ?_)
      have bU4 : Below W7.heap.size W7 U4 := bU3.grown G4 bU3.size (fun q hq => (E3.lt q hq).1)
      have zz4 := hK17.out _ bU4
      clear G4 O4
      refine hK.out _ _ zz4 (fun hHeld => ?_)
      clear hK K
      (try simp only [Act.put, List.setIfInBounds_toArray, List.set_cons_zero, List.set_cons_succ])
      refine wpAnyH_take (i := 6) (v := v4) rfl (by kernel_rfl) (by kernel_rfl) (by kernel_rfl) (fun _ _ _ h => h) (Or.inl ⟨by kernel_rfl, fun W hSw => ?_⟩) (by assumption) ?_
      · (try dsimp only at hSw)
        go_simp
      (try simp only [Act.put, List.setIfInBounds_toArray, List.set_cons_zero, List.set_cons_succ])
      refine wpAnyH_done (by kernel_rfl) ?_ _
      (try simp only [List.getElem_toArray, List.getElem_cons_succ, List.getElem_cons_zero, Act.put, List.setIfInBounds_toArray, List.set_cons_zero, List.set_cons_succ])
      clear hHeld
      have fin : Hid (AnsQ base w (L ++ J.toList) (.returned v4) U4) := Lib.hid (by
        have eL : ([] ++ L ++ [⟨pr, nq, (a : Int), (ka : Int) + 1, (b : Int), (kb : Int) + 1⟩] : List Qt) = L ++ J.toList := by rw [hJs.out, ← hnq.out]; simp
        have EE := E4
        rw [eL] at EE
        obtain ⟨A9, c9, e9, h9, l9, m9, n9, at9⟩ := EE.slice
        rw [e9]
        have q1 := bl7.out.size
        have q2 := eg.out
        exact ⟨A9, _, c9, rfl, h9, l9, m9, n9, (fun ad e => by have := (at9 ad e).2.2.1; omega), by rw [eg.out]; exact bl7.out.trans (bU4.mono (by omega))⟩)
      go_wp2_with fail
      go_ret
      exact fin.out
end Go.Proofs.Ytdeofifidjbolaa
