/-
  The law's own tops: tops.
-/
import Derived.Test.YtdeofifidjbolaaImTopsP
import Derived.Test.YtdeofifidjbolaaKeepProduct
import Derived.Test.YtdeofifidjbolaaGbRef
import Derived.OwnWalk
import Derived.Deep.RegionHeld3
import Derived.Deep.Cut
namespace Go.Proofs.Ytdeofifidjbolaa
open Go.RowKit
set_option linter.unusedVariables false
set_option linter.unusedSimpArgs false

theorem info_ptop : (Try.prog.info? 31).map (fun i => (i.zero, i.size, i.bytes)) = some (some (.agg #[.bool false, .bool false, .int .i64 0, .int .i64 0, .int .i64 0, .int .i64 0]), 6, 40) := by kernel_rfl
theorem cells6 {W : World} {g : Nat} {T : TypeId} {cs : Array Value} (h : W.heap[g]? = some (.cells cs T (0, 0))) {j : Nat} (hj : j < cs.size) : (∃ u, W.cell? ⟨g, j, none⟩ = some u) ∧ W.frozen? ⟨g, j, none⟩ = false := by
  rw [Lib.cell_of_heap h]
  exact ⟨⟨_, Array.getElem?_eq_getElem hj⟩, Lib.frozen_of_heap h j⟩
set_option maxRecDepth 100000 in
set_option maxHeartbeats 8000000 in
theorem Tops_any (p : PD) (A : Option Addr) (n cap : Nat) (L : List Tp) (w : World) (hp : Hid (p.Ok w)) (t1 : 1 ≤ p.tick) (t2 : p.tick ≤ 1000) (h : Hid (HV fTp w A n L)) (hok : Hid (OkT L)) (hn : n ≤ 9223372036854775807) :
    Calls Try.prog 18 #[p.val, .slice A n cap] w (GaveT 31 w (topsL p.tick (cntL p) L)) := by
  obtain ⟨i0, hi0, hz0, hz1, hz2⟩ := info_parts info_ptop
  have hcl := cntL_le p
  obtain ⟨cn, hcn⟩ : ∃ c, cntL p = c := ⟨_, rfl⟩
  have HN : Hid (∀ W, Below w.heap.size w W → Calls Try.prog 36 #[p.val] W fun e w' => e = .returned (.int .i64 (cn : Int)) ∧ Below W.heap.size W w') := Lib.hid (fun W b => by have := RefCount_any p W (Lib.hid (hp.out.below b)); rw [hcn] at this; exact this)
  rw [hcn] at hcl ⊢
  have hlen := h.out.1
  clear hp hcn
  obtain ⟨code, A1, n1, c1, tick, low, high, wide, rule, top, least, part, A2, n2, c2, Q, R⟩ := p
  simp only at t1 t2
  show Calls Try.prog 18 #[.agg #[.string (str code), .slice A1 n1 c1, .int .i64 tick, .int .i64 low, .int .i64 high, .int .i64 wide, .int .i64 rule, .int .i64 top, .int .i64 least, .int .i64 part, .slice A2 n2 c2], .slice A n cap] w (GaveT 31 w (topsL tick cn L))
  replace HN : Hid (∀ W, Below w.heap.size w W → Calls Try.prog 36 #[.agg #[.string (str code), .slice A1 n1 c1, .int .i64 tick, .int .i64 low, .int .i64 high, .int .i64 wide, .int .i64 rule, .int .i64 top, .int .i64 least, .int .i64 part, .slice A2 n2 c2]] W fun e w' => e = .returned (.int .i64 (cn : Int)) ∧ Below W.heap.size W w') := HN
  have hFl := topsL_len tick cn L
  have hFg : Hid (∀ i x, i < cn → L[i]? = some x → (topsL tick cn L)[i]? = some (turnT tick x)) := Lib.hid (fun i x hi hx => topsL_get hi hx)
  have hFe : Hid (∀ k, k ≤ cn → (k = cn ∨ n ≤ k) → curT (topsL tick cn L) cn k = topsL tick cn L) := Lib.hid (fun k h1 h2 => curT_end h1 (by rw [hlen]; exact h2))
  have hex : Hid (∀ k, k < n → ∃ x, L[k]? = some x) := Lib.hid (fun k hk => tp_at (by omega))
  obtain ⟨FT, eF⟩ : ∃ f, topsL tick cn L = f := ⟨_, rfl⟩
  rw [eF] at hFl hFg hFe ⊢
  clear eF
  replace hlen := Lib.hid hlen
  obtain ⟨W0, eW0⟩ : ∃ W0, w.alloc (.cells #[.string (str code), .slice A1 n1 c1, .int .i64 tick, .int .i64 low, .int .i64 high, .int .i64 wide, .int .i64 rule, .int .i64 top, .int .i64 least, .int .i64 part, .slice A2 n2 c2] 25) = W0 := ⟨_, rfl⟩
  obtain ⟨g, eg⟩ : ∃ g, w.heap.size = g := ⟨_, rfl⟩
  have hblk0 : W0.heap[g]? = some (.cells #[.string (str code), .slice A1 n1 c1, .int .i64 tick, .int .i64 low, .int .i64 high, .int .i64 wide, .int .i64 rule, .int .i64 top, .int .i64 least, .int .i64 part, .slice A2 n2 c2] 25 (0, 0)) := by rw [← eW0, ← eg]; exact heap_alloc_new w _
  have b00 : Below w.heap.size w W0 := by rw [← eW0]; exact (Below.refl _ w).alloc (Nat.le_refl _) _
  obtain ⟨a0, a1, a2, a3, a4, a5, a6, a7, a8, a9, a10⟩ := row11 (heap_alloc_new w (.cells #[.string (str code), .slice A1 n1 c1, .int .i64 tick, .int .i64 low, .int .i64 high, .int .i64 wide, .int .i64 rule, .int .i64 top, .int .i64 least, .int .i64 part, .slice A2 n2 c2] 25))
  replace eW0 := Lib.hid eW0
  replace eg := Lib.hid eg
  replace hblk0 := Lib.hid hblk0
  replace b00 := Lib.hid b00
  go_enter Try.func18, Try.ntmps18
  go_wp2_with fail
  rw [eW0.out, eg.out]
  clear a0 a1 a2 a3 a4 a5 a6 a7 a8 a9 a10 eW0
  refine (HN.out W0 b00.out).mono ?_
  rintro e w1 ⟨rfl, bb⟩
  have hblk1 := Lib.hid (pd_blk (p := ⟨code, A1, n1, c1, tick, low, high, wide, rule, top, least, part, A2, n2, c2, Q, R⟩) hblk0.out bb)
  have b1 := Lib.hid (below_up b00.out bb)
  clear bb hblk0 b00 HN
  go_wp2_with (at_make; refine wpList_make_full _ (by rfl) (.tmp 11) (.tmp 11) 27 (by rfl) w1.heap.size 31 i0 (.agg #[.bool false, .bool false, .int .i64 0, .int .i64 0, .int .i64 0, .int .i64 0]) 6 Try.underlying27 hi0 hz0 hz1 .i64 .i64 _ _ cn (by rfl) (by rfl) rfl rfl (by rw [hz2]; omega) (by unfold maxLen; omega) (Nat.le_refl _) ?_)
  intro w2 r2 g2
  have R2 : Hid (Own fTp 31 w2 w1.heap.size (.slice (some ⟨w1.heap.size, 0, none⟩) cn cn) (curT FT cn 0)) := Lib.hid (by
    rw [curT_zero]
    unfold Own
    rw [List.length_replicate, ← made_tops]
    exact r2)
  have B2 : Hid (Below w1.heap.size w1 w2) := Lib.hid ((Below.refl _ w1).grown g2 (Nat.le_refl _) (fun k e => by cases e))
  obtain ⟨gr, egr⟩ : ∃ x, w1.heap.size = x := ⟨_, rfl⟩
  rw [egr] at R2 B2
  have hgr : Hid (∀ b, b < gr → b < w1.heap.size) := Lib.hid (fun b hb => by omega)
  have hpg : Hid (g < gr) := Lib.hid (by rw [← egr]; exact (Array.getElem?_eq_some_iff.1 hblk1.out).1)
  have hwg : Hid (w.heap.size ≤ gr) := Lib.hid (by rw [← egr]; exact b1.out.size)
  -- what is kept whatever the row's block holds
  have KEEP : Hid (∀ W, Below gr w1 W → HV fTp W A n L ∧ W.heap[g]? = some (.cells #[.string (str code), .slice A1 n1 c1, .int .i64 tick, .int .i64 low, .int .i64 high, .int .i64 wide, .int .i64 rule, .int .i64 top, .int .i64 least, .int .i64 part, .slice A2 n2 c2] 25 (0, 0)) ∧ Below w.heap.size w W) := Lib.hid (fun W b => by
    have b' : Below w1.heap.size w1 W := by rw [egr]; exact b
    exact ⟨(h.out.below b1.out).below b', pd_blk (p := ⟨code, A1, n1, c1, tick, low, high, wide, rule, top, least, part, A2, n2, c2, Q, R⟩) hblk1.out b', below_up b1.out b'⟩)
  replace egr := Lib.hid egr
  clear r2 g2 h hblk1
  go_wp2_with fail
  rw [egr.out]
  go_loopw [7] (fun iv wr => ∃ k : Nat, iv = .int .i64 (k : Int) ∧ k ≤ cn ∧ k ≤ n ∧ Hid (Own fTp 31 wr gr (.slice (some ⟨gr, 0, none⟩) cn cn) (curT FT cn k)) ∧ Hid (Below gr w1 wr)) (fun iv _ => cn - (intOf iv).toNat)
  case atStart => exact ⟨0, rfl, by omega, by omega, R2, B2⟩
  case round =>
    clear R2 B2
    obtain ⟨k, rfl, hk, hkn, hR, hB⟩ := hrel
    by_cases hlt : k < cn ∧ k < n
    · obtain ⟨hk1, hk2⟩ := hlt
      have d1 : decide ((k : Int) < (cn : Int)) = true := decide_eq_true (by omega)
      have d1' : decide (k < cn) = true := decide_eq_true hk1
      have d2 : decide ((k : Int) < (n : Int)) = true := decide_eq_true (by omega)
      have d2' : decide (k < n) = true := decide_eq_true hk2
      have d3 : (k : Int) < (cn : Int) := by omega
      have d4 : (k : Int) < (n : Int) := by omega
      obtain ⟨x, hx⟩ := hex.out k hk2
      have hxo := hok.out x (List.mem_of_getElem? hx)
      have hFk := hFg.out k x hk1 hx
      obtain ⟨hvW, hpW, -⟩ := KEEP.out wr hB.out
      obtain ⟨b, off, rfl, x0, x1, x2, x3, x4, x5⟩ := hvW.atT hx
      obtain ⟨xa, xb, xc, xd, xe, xf⟩ := x
      simp only at x0 x1 x2 x3 x4 x5
      have hml := curT_len hFl hk
      obtain ⟨g', cap', cur, ev, -, hgl, hgh, -, -, hcs, -⟩ := hR.out.open' (by omega)
      rw [hml] at ev
      injection ev with ev1 ev2 ev3
      injection ev1 with ev1
      injection ev1 with ev1
      subst ev1; subst ev3
      have hcs6 : cur.size = cn * 6 := hcs
      have hgk := curT_get hFl hk1
      have hR6 := hR.out.top6 hgk xa xb xc xd xe xf
      obtain ⟨f0, f1, f2, f3, f4, f5, ⟨y0, q0⟩, ⟨y1, q1⟩, ⟨y2, q2⟩, ⟨y3, q3⟩, ⟨y4, q4⟩, ⟨y5, q5⟩⟩ := set6k (k * 6) (.bool xa) (.bool xb) (.int .i64 xc) (.int .i64 xd) (.int .i64 xe) (.int .i64 xf) hgh (by omega)
      have B6 : Hid (Below gr w1 ((((((wr.setCell ⟨gr, k * 6, none⟩ (.bool xa)).setCell ⟨gr, k * 6 + 1, none⟩ (.bool xb)).setCell ⟨gr, k * 6 + 2, none⟩ (.int .i64 xc)).setCell ⟨gr, k * 6 + 3, none⟩ (.int .i64 xd)).setCell ⟨gr, k * 6 + 4, none⟩ (.int .i64 xe)).setCell ⟨gr, k * 6 + 5, none⟩ (.int .i64 xf))) := Lib.hid (hB.out.trans (((((((set_only wr gr (k * 6) _).trans (set_only _ gr _ _)).trans (set_only _ gr _ _)).trans (set_only _ gr _ _)).trans (set_only _ gr _ _)).trans (set_only _ gr _ _)).below (B := gr) (by omega) (fun k hk e => by omega)))
      replace hR6 := Lib.hid hR6
      clear hR hB hvW hpW hgk hgh hcs ev2 hml hgl
      replace hFk := Lib.hid hFk
      replace hx := Lib.hid hx
      go_wp2_with fail
      clear f0 f1 f2 f3 f4 f5 y0 q0 y1 q1 y2 q2 y3 q3 y4 q4 y5 q5 x0 x1 x2 x3 x4 x5 hcs6
      go_loopw [8] (fun iv wi => (iv = .int .i64 0 ∧ Hid (Own fTp 31 wi gr (.slice (some ⟨gr, 0, none⟩) cn cn) ((curT FT cn k).set k ⟨xa, xb, xc, xd, xe, xf⟩)) ∧ Hid (Below gr w1 wi)) ∨ (iv = .int .i64 1 ∧ Hid (Own fTp 31 wi gr (.slice (some ⟨gr, 0, none⟩) cn cn) ((curT FT cn k).set k (halfT tick ⟨xa, xb, xc, xd, xe, xf⟩))) ∧ Hid (Below gr w1 wi)) ∨ (iv = .int .i64 2 ∧ Hid (Own fTp 31 wi gr (.slice (some ⟨gr, 0, none⟩) cn cn) ((curT FT cn k).set k (turnT tick ⟨xa, xb, xc, xd, xe, xf⟩))) ∧ Hid (Below gr w1 wi))) (fun iv _ => 2 - (intOf iv).toNat)
      case atStart => exact Or.inl ⟨rfl, hR6, B6⟩
      case round =>
        clear hR6 B6
        rcases hrel with ⟨rfl, hRi, hBi⟩ | ⟨rfl, hRi, hBi⟩ | ⟨rfl, hRi, hBi⟩
        · skip
          obtain ⟨hvW, hpW, -⟩ := KEEP.out wr hBi.out
          obtain ⟨b', off', e', x0, x1, x2, x3, x4, x5⟩ := hvW.atT hx.out
          injection e' with e'
          injection e' with e1 e2
          subst e1; subst e2
          simp only at x0 x1 x2 x3 x4 x5
          obtain ⟨a0, a1, a2, a3, a4, a5, a6, a7, a8, a9, a10⟩ := row11 hpW
          have hml : ((curT FT cn k).set k ⟨xa, xb, xc, xd, xe, xf⟩).length = cn := by rw [List.length_set]; exact curT_len hFl hk
          obtain ⟨g', cap', cur, ev, -, hgl, hgh, -, -, hcs, -⟩ := hRi.out.open' (by omega)
          rw [hml] at ev
          injection ev with ev1 ev2 ev3
          injection ev1 with ev1
          injection ev1 with ev1
          subst ev1; subst ev3
          have hcs6 : cur.size = cn * 6 := hcs
          obtain ⟨⟨y0, q0⟩, f0⟩ := cells6 hgh (j := k * 6 + 2) (by omega)
          have hgk : ((curT FT cn k).set k ⟨xa, xb, xc, xd, xe, xf⟩)[k]? = some ⟨xa, xb, xc, xd, xe, xf⟩ := by rw [List.getElem?_set, if_pos rfl, if_pos (by rw [curT_len hFl hk]; exact hk1)]
          clear hgh hcs hml hvW hpW
          have ht := tmod30 xc
          obtain ⟨hm1, hm2⟩ := tick_mul (t := tick) (r := xc.tmod 30) (by omega) t2 ht.1 ht.2
          obtain ⟨W2, eW2⟩ : ∃ W, (wr.setCell ⟨gr, k * 6 + 2, none⟩ (.int .i64 (tick * xc.tmod 30))).drew = W := ⟨_, rfl⟩
          have hR2 : Hid (Own fTp 31 W2 gr (.slice (some ⟨gr, 0, none⟩) cn cn) ((curT FT cn k).set k ⟨xa, xb, tick * xc.tmod 30, xd, xe, xf⟩)) := Lib.hid (by
            have r := hRi.out.putT (m := 2) (x' := ⟨xa, xb, tick * xc.tmod 30, xd, xe, xf⟩) (v := .int .i64 (tick * xc.tmod 30)) hgk (by decide) rfl
            rw [List.set_set] at r
            rw [← eW2]
            exact r)
          have B2 : Hid (Below gr w1 W2) := Lib.hid (by
            rw [← eW2]
            exact (hBi.out.trans ((set_only wr gr _ _).below (B := gr) (by omega) (fun k hk e => by omega))).drew)
          replace eW2 := Lib.hid eW2
          replace hgk := Lib.hid hgk
          go_upto_region 10 with (fail)
          go_region
          rw [eW2.out]
          go_upto_region 11 with (fail)
          clear eW2 x0 x1 x2 x3 x4 x5 y0 q0 f0 a0 a1 a2 a3 a4 a5 a6 a7 a8 a9 a10 hcs6 hgl hRi hBi ev2
          have hml : ((curT FT cn k).set k ⟨xa, xb, tick * xc.tmod 30, xd, xe, xf⟩).length = cn := by rw [List.length_set]; exact curT_len hFl hk
          obtain ⟨g', cap', cur, ev, -, hgl, hgh, -, -, hcs, -⟩ := hR2.out.open' (by omega)
          rw [hml] at ev
          injection ev with ev1 ev2 ev3
          injection ev1 with ev1
          injection ev1 with ev1
          subst ev1; subst ev3
          have hcs6 : cur.size = cn * 6 := hcs
          obtain ⟨⟨y0, q0⟩, f0⟩ := cells6 (show W2.drew.heap[gr]? = _ from hgh) (j := k * 6 + 4) (by omega)
          have hgk2 : ((curT FT cn k).set k ⟨xa, xb, tick * xc.tmod 30, xd, xe, xf⟩)[k]? = some ⟨xa, xb, tick * xc.tmod 30, xd, xe, xf⟩ := by rw [List.getElem?_set, if_pos rfl, if_pos (by rw [curT_len hFl hk]; exact hk1)]
          have hS : ∀ W : World, Below gr w1 W → W.cell? ⟨b, off + k * 6 + 4, none⟩ = some (.int .i64 xe) := fun W bW => by
            obtain ⟨b', off', e', x0, x1, x2, x3, x4, x5⟩ := (KEEP.out W bW).1.atT hx.out
            injection e' with e'
            injection e' with e1 e2
            subst e1; subst e2
            exact x4
          have BV : ∀ V : Value, Below gr w1 (W2.setCell ⟨gr, k * 6 + 4, none⟩ V).drew := fun V => (B2.out.trans ((set_only W2 gr _ _).below (B := gr) (by omega) (fun k hk e => by omega))).drew
          have hw0 : (fun W : World => W.cell? ⟨b, off + k * 6 + 4, none⟩ = some (.int .i64 xe)) W2.drew := hS _ B2.out.drew
          have hw1 : Hid (∀ V : Value, (fun W : World => W.cell? ⟨b, off + k * 6 + 4, none⟩ = some (.int .i64 xe)) (W2.setCell ⟨gr, k * 6 + 4, none⟩ V).drew) := Lib.hid (fun V => hS _ (BV V))
          simp only at hw0
          have hwl := withinN_le xe 20
          have q5 : IntKind.i64.wrap (1 + (withinN xe 20 : Int)) = 1 + (withinN xe 20 : Int) := wrap_in (by omega) (by omega)
          have HW : Hid (∀ W : World, Calls Try.prog 19 #[.int .i64 xe, .int .i64 0, .int .i64 20] W fun e w' => e = .returned (.int .i64 (withinN xe 20)) ∧ w' = W) := Lib.hid (fun W => Within_any xe 20 W (by decide) hxo.q0.1 hxo.q0.2)
          have hR3 : Hid (Own fTp 31 (W2.setCell ⟨gr, k * 6 + 4, none⟩ (.int .i64 (1 + (withinN xe 20 : Int)))).drew gr (.slice (some ⟨gr, 0, none⟩) cn cn) ((curT FT cn k).set k (halfT tick ⟨xa, xb, xc, xd, xe, xf⟩))) := Lib.hid (by
            have r := hR2.out.putT (m := 4) (x' := (halfT tick ⟨xa, xb, xc, xd, xe, xf⟩)) (v := .int .i64 (1 + (withinN xe 20 : Int))) hgk2 (by decide) rfl
            rw [List.set_set] at r
            exact r)
          have B3 := Lib.hid (BV (.int .i64 (1 + (withinN xe 20 : Int))))
          clear hS BV hgk2 hgh hcs hml ev2 hgk hR2 B2
          go_region_held3 (fun W : World => W.cell? ⟨b, off + k * 6 + 4, none⟩ = some (.int .i64 xe)) (first | with_reducible assumption | exact hw0 | exact hw1.out _) ((go_at_call 19; refine (HW.out _).mono ?_; rintro e w4 ⟨rfl, rfl⟩))
          rename_i hheld
          clear hheld hw0 hw1 HW q0 f0
          go_wp2_with fail
          go_roundw
          case rel => exact Or.inr (Or.inl ⟨by go_num, hR3, B3⟩)
          case measure => simp [intOf]
        · skip
          obtain ⟨hvW, hpW, -⟩ := KEEP.out wr hBi.out
          obtain ⟨b', off', e', x0, x1, x2, x3, x4, x5⟩ := hvW.atT hx.out
          injection e' with e'
          injection e' with e1 e2
          subst e1; subst e2
          simp only at x0 x1 x2 x3 x4 x5
          obtain ⟨a0, a1, a2, a3, a4, a5, a6, a7, a8, a9, a10⟩ := row11 hpW
          have hml : ((curT FT cn k).set k (halfT tick ⟨xa, xb, xc, xd, xe, xf⟩)).length = cn := by rw [List.length_set]; exact curT_len hFl hk
          obtain ⟨g', cap', cur, ev, -, hgl, hgh, -, -, hcs, -⟩ := hRi.out.open' (by omega)
          rw [hml] at ev
          injection ev with ev1 ev2 ev3
          injection ev1 with ev1
          injection ev1 with ev1
          subst ev1; subst ev3
          have hcs6 : cur.size = cn * 6 := hcs
          obtain ⟨⟨y0, q0⟩, f0⟩ := cells6 hgh (j := k * 6 + 3) (by omega)
          have hgk : ((curT FT cn k).set k (halfT tick ⟨xa, xb, xc, xd, xe, xf⟩))[k]? = some (halfT tick ⟨xa, xb, xc, xd, xe, xf⟩) := by rw [List.getElem?_set, if_pos rfl, if_pos (by rw [curT_len hFl hk]; exact hk1)]
          clear hgh hcs hml hvW hpW
          have ht := tmod30 xd
          obtain ⟨hm1, hm2⟩ := tick_mul (t := tick) (r := xd.tmod 30) (by omega) t2 ht.1 ht.2
          obtain ⟨W2, eW2⟩ : ∃ W, (wr.setCell ⟨gr, k * 6 + 3, none⟩ (.int .i64 (tick * xd.tmod 30))).drew = W := ⟨_, rfl⟩
          have hR2 : Hid (Own fTp 31 W2 gr (.slice (some ⟨gr, 0, none⟩) cn cn) ((curT FT cn k).set k ⟨xa, xb, tick * xc.tmod 30, tick * xd.tmod 30, 1 + (withinN xe 20 : Int), xf⟩)) := Lib.hid (by
            have r := hRi.out.putT (m := 3) (x' := ⟨xa, xb, tick * xc.tmod 30, tick * xd.tmod 30, 1 + (withinN xe 20 : Int), xf⟩) (v := .int .i64 (tick * xd.tmod 30)) hgk (by decide) rfl
            rw [List.set_set] at r
            rw [← eW2]
            exact r)
          have B2 : Hid (Below gr w1 W2) := Lib.hid (by
            rw [← eW2]
            exact (hBi.out.trans ((set_only wr gr _ _).below (B := gr) (by omega) (fun k hk e => by omega))).drew)
          replace eW2 := Lib.hid eW2
          replace hgk := Lib.hid hgk
          go_upto_region 10 with (fail)
          go_region
          rw [eW2.out]
          go_upto_region 11 with (fail)
          clear eW2 x0 x1 x2 x3 x4 x5 y0 q0 f0 a0 a1 a2 a3 a4 a5 a6 a7 a8 a9 a10 hcs6 hgl hRi hBi ev2
          have hml : ((curT FT cn k).set k ⟨xa, xb, tick * xc.tmod 30, tick * xd.tmod 30, 1 + (withinN xe 20 : Int), xf⟩).length = cn := by rw [List.length_set]; exact curT_len hFl hk
          obtain ⟨g', cap', cur, ev, -, hgl, hgh, -, -, hcs, -⟩ := hR2.out.open' (by omega)
          rw [hml] at ev
          injection ev with ev1 ev2 ev3
          injection ev1 with ev1
          injection ev1 with ev1
          subst ev1; subst ev3
          have hcs6 : cur.size = cn * 6 := hcs
          obtain ⟨⟨y0, q0⟩, f0⟩ := cells6 (show W2.drew.heap[gr]? = _ from hgh) (j := k * 6 + 5) (by omega)
          have hgk2 : ((curT FT cn k).set k ⟨xa, xb, tick * xc.tmod 30, tick * xd.tmod 30, 1 + (withinN xe 20 : Int), xf⟩)[k]? = some ⟨xa, xb, tick * xc.tmod 30, tick * xd.tmod 30, 1 + (withinN xe 20 : Int), xf⟩ := by rw [List.getElem?_set, if_pos rfl, if_pos (by rw [curT_len hFl hk]; exact hk1)]
          have hS : ∀ W : World, Below gr w1 W → W.cell? ⟨b, off + k * 6 + 5, none⟩ = some (.int .i64 xf) := fun W bW => by
            obtain ⟨b', off', e', x0, x1, x2, x3, x4, x5⟩ := (KEEP.out W bW).1.atT hx.out
            injection e' with e'
            injection e' with e1 e2
            subst e1; subst e2
            exact x5
          have BV : ∀ V : Value, Below gr w1 (W2.setCell ⟨gr, k * 6 + 5, none⟩ V).drew := fun V => (B2.out.trans ((set_only W2 gr _ _).below (B := gr) (by omega) (fun k hk e => by omega))).drew
          have hw0 : (fun W : World => W.cell? ⟨b, off + k * 6 + 5, none⟩ = some (.int .i64 xf)) W2.drew := hS _ B2.out.drew
          have hw1 : Hid (∀ V : Value, (fun W : World => W.cell? ⟨b, off + k * 6 + 5, none⟩ = some (.int .i64 xf)) (W2.setCell ⟨gr, k * 6 + 5, none⟩ V).drew) := Lib.hid (fun V => hS _ (BV V))
          simp only at hw0
          have hwl := withinN_le xf 20
          have q5 : IntKind.i64.wrap (1 + (withinN xf 20 : Int)) = 1 + (withinN xf 20 : Int) := wrap_in (by omega) (by omega)
          have HW : Hid (∀ W : World, Calls Try.prog 19 #[.int .i64 xf, .int .i64 0, .int .i64 20] W fun e w' => e = .returned (.int .i64 (withinN xf 20)) ∧ w' = W) := Lib.hid (fun W => Within_any xf 20 W (by decide) hxo.q1.1 hxo.q1.2)
          have hR3 : Hid (Own fTp 31 (W2.setCell ⟨gr, k * 6 + 5, none⟩ (.int .i64 (1 + (withinN xf 20 : Int)))).drew gr (.slice (some ⟨gr, 0, none⟩) cn cn) ((curT FT cn k).set k (turnT tick ⟨xa, xb, xc, xd, xe, xf⟩))) := Lib.hid (by
            have r := hR2.out.putT (m := 5) (x' := (turnT tick ⟨xa, xb, xc, xd, xe, xf⟩)) (v := .int .i64 (1 + (withinN xf 20 : Int))) hgk2 (by decide) rfl
            rw [List.set_set] at r
            exact r)
          have B3 := Lib.hid (BV (.int .i64 (1 + (withinN xf 20 : Int))))
          clear hS BV hgk2 hgh hcs hml ev2 hgk hR2 B2
          go_region_held3 (fun W : World => W.cell? ⟨b, off + k * 6 + 5, none⟩ = some (.int .i64 xf)) (first | with_reducible assumption | exact hw0 | exact hw1.out _) ((go_at_call 19; refine (HW.out _).mono ?_; rintro e w4 ⟨rfl, rfl⟩))
          rename_i hheld
          clear hheld hw0 hw1 HW q0 f0
          go_wp2_with fail
          go_roundw
          case rel => exact Or.inr (Or.inr ⟨by go_num, hR3, B3⟩)
          case measure => simp [intOf]
        · have hRn : Hid (Own fTp 31 wr gr (.slice (some ⟨gr, 0, none⟩) cn cn) (curT FT cn (k + 1))) := Lib.hid (by rw [← curT_set hFl hk1 hFk.out]; exact hRi.out)
          clear hRi hFk
          go_wp2_with fail
          go_roundw
          case rel => exact ⟨k + 1, by go_num, by omega, by omega, hRn, hBi⟩
          case measure => simp [intOf]; omega
    · have hfin := hFe.out k hk (by omega)
      rw [hfin] at hR
      have fin : Hid (GaveT 31 w FT (.returned (.slice (some ⟨gr, 0, none⟩) cn cn)) wr) := Lib.hid ⟨_, rfl, hR.out.base hwg.out, (KEEP.out wr hB.out).2.2⟩
      replace hfin := Lib.hid hfin
      by_cases hc : k < cn
      · have hkn2 : k = n := by omega
        have d1 : decide ((k : Int) < (cn : Int)) = true := decide_eq_true (by omega)
        have d1' : decide (k < cn) = true := decide_eq_true hc
        have d2 : decide ((k : Int) < (n : Int)) = false := decide_eq_false (by omega)
        have d2' : decide (k < n) = false := decide_eq_false (by omega)
        clear hR hB hkn2 hlt hk hkn hc
        go_wp2_with fail
        go_ret
        exact fin.out
      · have d1 : decide ((k : Int) < (cn : Int)) = false := decide_eq_false (by omega)
        have d1' : decide (k < cn) = false := decide_eq_false hc
        clear hR hB hlt hk hkn hc
        go_wp2_with fail
        go_ret
        exact fin.out
end Go.Proofs.Ytdeofifidjbolaa
