/-
  The document's best quote: Best.
-/
import Derived.Test.YtdeofifidjbolaaImJoin
namespace Go.Proofs.Ytdeofifidjbolaa
open Go.RowKit
set_option linter.unusedVariables false
set_option linter.unusedSimpArgs false

def Qt.cells (x : Qt) : Array Value := #[.int .i64 x.p, .int .i64 x.n, .int .i64 x.i1, .int .i64 x.s1, .int .i64 x.i2, .int .i64 x.s2]
def Qt.val (x : Qt) : Value := .agg x.cells
def bestP (l : List Qt) (s : Int) : Qt × Bool := match l with
  | [] => (⟨0, 0, 0, 0, 0, 0⟩, false)
  | x :: r => (bestFrom s x r, true)
theorem bestFrom_snoc (s : Int) (x : Qt) (l : List Qt) (y : Qt) : bestFrom s x (l ++ [y]) = if betS s y.p (bestFrom s x l).p = true then y else bestFrom s x l := by
  induction l generalizing x with
  | nil => rfl
  | cons z l ih => rw [List.cons_append, bestFrom, bestFrom, ih]
theorem results_best {P : Program} {fn : Func} {p u : Tmp} {ty : TypeId} (h : fn.results = #[.cell p ty, .tmp u]) (tmps : Array Value) (w : World) (g : Nat) (t : TypeId) (cs : Array Value) (fr : Nat × Nat) (d : TypeDesc)
    (hp : tmps.getD p undef = .pointer (some ⟨g, 0, none⟩)) (hg : w.heap[g]? = some (.cells cs t fr))
    (hu : P.underlying ty = some d) (hd : (match d with | .struct _ | .array _ _ => true | _ => false) = true) (hi : (P.info? ty).map (·.size) = some cs.size) :
    (results fn tmps).run P w = .ok (.tuple #[.agg cs, tmps.getD u undef]) w := by
  rw [results_cell_tmp h, hp]
  simp [asAddr, run_loadVar_row w g t ty cs fr d hg hu hd hi, Result.andThen]
theorem build_noq : ∀ W : World, (Instr.build 64 #[]).run Try.prog W = .ok (.agg #[.int .i64 0, .int .i64 0, .int .i64 0, .int .i64 0, .int .i64 0, .int .i64 0]) W := fun W => by kernel_rfl
theorem RBetter_any (s a b : Int) (w : World) (h1 : -9223372036854775808 ≤ s) (h2 : s ≤ 9223372036854775807) : Calls Try.prog 49 #[.int .i64 s, .int .i64 a, .int .i64 b] w fun e w' => e = .returned (.bool (betS s a b)) ∧ w' = w := by
  by_cases hs : s = 1
  · subst hs
    rw [show betS 1 a b = decide (b < a) from rfl]
    go_enter Try.func49, Try.ntmps49
    go_wp2_with fail
    go_ret
    exact ⟨rfl, rfl⟩
  · have d1 : (s == 1) = false := beq_eq_false_iff_ne.2 hs
    have d2 : decide (s = 1) = false := decide_eq_false hs
    rw [show betS s a b = decide (a < b) from if_neg hs]
    replace hs := Lib.hid hs
    go_enter Try.func49, Try.ntmps49
    go_wp2_with fail
    go_ret
    exact ⟨rfl, rfl⟩
set_option maxRecDepth 100000 in
set_option maxHeartbeats 8000000 in
theorem RBest14_any (A : Option Addr) (n c : Nat) (l : List Qt) (s : Int) (w : World) (hv : Hid (HV fQt w A n l)) (hok : Hid (OkQ l)) (h1 : -9223372036854775808 ≤ s) (h2 : s ≤ 9223372036854775807) (hn : n ≤ 1000) :
    Calls Try.prog 27 #[.slice A n c, .int .i64 s] w fun e w' => e = .returned (.tuple #[(bestP l s).1.val, .bool (bestP l s).2]) ∧ Below w.heap.size w w' := by
  obtain ⟨g, eg⟩ : ∃ g, w.heap.size = g := ⟨_, rfl⟩
  obtain ⟨W0, eW0⟩ : ∃ W, w.alloc (.cells #[.int .i64 0, .int .i64 0, .int .i64 0, .int .i64 0, .int .i64 0, .int .i64 0] 64) = W := ⟨_, rfl⟩
  have s0 : W0.heap.size = g + 1 := by rw [← eW0, World.size_alloc, eg]
  have hg0 : W0.heap[g]? = some (.cells #[.int .i64 0, .int .i64 0, .int .i64 0, .int .i64 0, .int .i64 0, .int .i64 0] 64 (0, 0)) := by rw [← eW0, ← eg]; exact heap_alloc_new w _
  have b0 : Below g w W0 := by rw [← eW0, ← eg]; exact (Below.refl _ w).alloc (Nat.le_refl _) _
  have hV : Hid (∀ W, Below g w W → HV fQt W A n l) := Lib.hid (fun W b => hv.out.below (by rw [eg]; exact b))
  have hln := hv.out.1
  replace eW0 := Lib.hid eW0
  replace eg := Lib.hid eg
  clear hv
  cases l with
  | nil =>
    obtain rfl : n = 0 := by rw [← hln]; rfl
    have d0 : (((0 : Nat) : Int) == 0) = true := by simp
    have bz := build_noq
    rw [show bestP [] s = (⟨0, 0, 0, 0, 0, 0⟩, false) from rfl]
    obtain ⟨f0, f1, f2, f3, f4, f5, c0, c1, c2, c3, c4, c5, hq5⟩ := set6 (.int .i64 0) (.int .i64 0) (.int .i64 0) (.int .i64 0) (.int .i64 0) (.int .i64 0) hg0
    have on5 := only6 W0 g (.int .i64 0) (.int .i64 0) (.int .i64 0) (.int .i64 0) (.int .i64 0) (.int .i64 0)
    have b5 := Lib.hid (b0.trans (on5.below (B := g) (by omega) (fun k hk e => by omega)))
    replace hq5 := Lib.hid hq5
    replace hg0 := Lib.hid hg0
    replace b0 := Lib.hid b0
    clear on5
    go_enter Try.func27, Try.ntmps27
    go_upto_region 1 with (fail)
    rw [eW0.out, eg.out]
    go_wp2_with fail
    (try simp only [Exit.inBlock, Exit.then])
    refine bodyPost_ret (results_best rfl _ _ g 64 _ (0, 0) _ rfl hq5.out rfl rfl rfl) rfl ?_
    exact ⟨rfl, by rw [eg.out]; exact b5.out⟩
  | cons x0 r =>
    obtain ⟨m, em⟩ : ∃ m, r.length = m := ⟨_, rfl⟩
    have hnm : n = m + 1 := by rw [← hln, ← em]; rfl
    have d0 : ((n : Int) == 0) = false := beq_eq_false_iff_ne.2 (by omega)
    have d0' : decide ((n : Int) = 0) = false := decide_eq_false (by omega)
    have d00 : decide ((0 : Int) < (n : Int)) = true := decide_eq_true (by omega)
    have d01 : (0 : Int) < (n : Int) := by omega
    have d02 : 0 < n := by omega
    rw [show bestP (x0 :: r) s = (bestFrom s x0 r, true) from rfl]
    have hx0 : (x0 :: r)[0]? = some x0 := rfl
    have hat : Hid (∀ j y, r[j]? = some y → (x0 :: r)[j + 1]? = some y) := Lib.hid (fun j y h => by simpa using h)
    have hex : Hid (∀ j, j < m → ∃ y, r[j]? = some y) := Lib.hid (fun j hj => ⟨_, List.getElem?_eq_getElem (by omega)⟩)
    have hsn : Hid (∀ j y, r[j]? = some y → bestFrom s x0 (r.take (j + 1)) = if betS s y.p (bestFrom s x0 (r.take j)).p = true then y else bestFrom s x0 (r.take j)) := Lib.hid (fun j y h => by rw [List.take_add_one, h, Option.toList_some, bestFrom_snoc])
    have hfull : Hid (bestFrom s x0 (r.take m) = bestFrom s x0 r) := Lib.hid (by rw [List.take_of_length_le (by omega)])
    have ho0 := hok.out x0 (by simp)
    have hoR : Hid (∀ (j : Nat) (y : Qt), r[j]? = some y → y.Ok) := Lib.hid (fun j y h => hok.out y (by simp [List.mem_of_getElem? h]))
    obtain ⟨W1, eW1⟩ : ∃ W, W0.alloc (.cells x0.cells 64) = W := ⟨_, rfl⟩
    have b01 : Below W0.heap.size W0 W1 := by rw [← eW1]; exact (Below.refl _ W0).alloc (Nat.le_refl _) _
    have hg1 : Hid (W1.heap[g]? = some (.cells #[.int .i64 0, .int .i64 0, .int .i64 0, .int .i64 0, .int .i64 0, .int .i64 0] 64 (0, 0))) := Lib.hid ((b01.block g (by omega)).trans hg0)
    have hx1 : Hid (W1.heap[g + 1]? = some (.cells x0.cells 64 (0, 0))) := Lib.hid (by rw [← eW1, ← s0]; exact heap_alloc_new W0 _)
    have b1 : Hid (Below g w W1) := Lib.hid (b0.trans (b01.mono (by omega)))
    obtain ⟨b, off, rfl, y0, y1, y2, y3, y4, y5⟩ := (hV.out W0 b0).atQ hx0
    have st0 : Hid (bestFrom s x0 (r.take 0) = x0) := Lib.hid rfl
    replace hfull : Hid (∀ z, bestFrom s x0 (r.take m) = z → bestFrom s x0 r = z) := Lib.hid (fun z e => by rw [← hfull.out]; exact e)
    obtain ⟨BF, eBF⟩ : ∃ f : Nat → Qt, (fun j => bestFrom s x0 (r.take j)) = f := ⟨_, rfl⟩
    replace st0 : Hid (BF 0 = x0) := Lib.hid (by rw [← eBF]; exact st0.out)
    replace hsn : Hid (∀ j y, r[j]? = some y → BF (j + 1) = if betS s y.p (BF j).p = true then y else BF j) := Lib.hid (fun j y h => by rw [← eBF]; exact hsn.out j y h)
    replace hfull : Hid (∀ z, BF m = z → bestFrom s x0 r = z) := Lib.hid (fun z e => hfull.out z (by rw [← eBF] at e; exact e))
    obtain ⟨RB, eRB⟩ : ∃ z, bestFrom s x0 r = z := ⟨_, rfl⟩
    rw [eRB] at hfull ⊢
    clear eRB eBF hok hx0
    obtain ⟨ap, an, ai, as_, aj, at_⟩ := x0
    simp only [Nat.zero_mul, Nat.add_zero] at y0 y1 y2 y3 y4 y5
    replace eW1 : Hid (W0.alloc (.cells #[.int .i64 ap, .int .i64 an, .int .i64 ai, .int .i64 as_, .int .i64 aj, .int .i64 at_] 64) = W1) := Lib.hid eW1
    replace ho0 := Lib.hid ho0
    replace hnm := Lib.hid hnm
    replace em := Lib.hid em
    replace s0 := Lib.hid s0
    clear hg0 b0 b01 hln
    go_enter Try.func27, Try.ntmps27
    go_upto_region 1 with (fail)
    rw [eW0.out, eg.out]
    go_upto_region 4 with (fail)
    rw [eW1.out, s0.out]
    clear y0 y1 y2 y3 y4 y5 eW1 eW0
    go_wp2_with fail
    go_loopw [7] (fun iv wr => ∃ (j kk : Nat) (z : Qt), iv = .int .i64 (kk : Int) ∧ kk = j + 1 ∧ j ≤ m ∧ Hid (BF j = z) ∧ Hid z.Ok ∧ Hid (wr.heap[g + 1]? = some (.cells z.cells 64 (0, 0))) ∧ Hid (wr.heap[g]? = some (.cells #[.int .i64 0, .int .i64 0, .int .i64 0, .int .i64 0, .int .i64 0, .int .i64 0] 64 (0, 0))) ∧ Hid (Below g w wr)) (fun iv _ => (n - intOf iv).toNat)
    case atStart => exact ⟨0, 1, ⟨ap, an, ai, as_, aj, at_⟩, rfl, rfl, by omega, st0, ho0, hx1, hg1, b1⟩
    case round =>
      clear st0 ho0 hx1 hg1 b1
      obtain ⟨j, kk, z, rfl, hkk, hj, hz, hzo, hgx, hgz, hB⟩ := hrel
      obtain ⟨zp, zn, zi, zs, zj, zt⟩ := z
      have hgx' : wr.heap[g + 1]? = some (.cells #[.int .i64 zp, .int .i64 zn, .int .i64 zi, .int .i64 zs, .int .i64 zj, .int .i64 zt] 64 (0, 0)) := hgx.out
      obtain ⟨z0, z1, z2, z3, z4, z5⟩ := row6 hgx'
      by_cases hlt : j < m
      · have d1 : decide ((kk : Int) < (n : Int)) = true := decide_eq_true (by have := hnm.out; omega)
        have d3 : (kk : Int) < (n : Int) := by have := hnm.out; omega
        obtain ⟨y, hy⟩ := hex.out j hlt
        have hyo := Lib.hid (hoR.out j y hy)
        have hst := hsn.out j y hy
        rw [hz.out] at hst
        obtain ⟨b', off', e', y0, y1, y2, y3, y4, y5⟩ := (hV.out wr hB.out).atQ (hat.out j y hy)
        injection e' with e'
        injection e' with e1 e2
        subst e1; subst e2
        rw [← hkk] at y0 y1 y2 y3 y4 y5
        obtain ⟨yp, yn, yi, ys, yj, yt⟩ := y
        simp only at y0 y1 y2 y3 y4 y5 hst
        have hbt := RBetter_any s yp zp wr.drew h1 h2
        obtain ⟨bt, ebt⟩ : ∃ t, betS s yp zp = t := ⟨_, rfl⟩
        rw [ebt] at hst hbt
        have hk0 : Hid (kk = j + 1) := Lib.hid hkk
        have hk1 : Hid (kk + 1 = j + 1 + 1) := Lib.hid (by omega)
        have hj1 : j + 1 ≤ m := by omega
        have hmeas : (n : Int) - (kk : Int) - 1 ≥ 0 := by omega
        replace hst := Lib.hid hst
        replace hbt := Lib.hid hbt
        replace ebt := Lib.hid ebt
        replace hy := Lib.hid hy
        clear hkk hj hlt hz hgx
        replace hgx' := Lib.hid hgx'
        have zz0 : (fun W : World => W.cell? ⟨b, off + kk * 6, none⟩ = some (.int .i64 yp) ∧ W.cell? ⟨g + 1, 0, none⟩ = some (.int .i64 zp)) wr.drew := ⟨y0, z0⟩
        go_upto_region 7 with (fail)
        refine wp_region_held_drew (S := (fun W : World => W.cell? ⟨b, off + kk * 6, none⟩ = some (.int .i64 yp) ∧ W.cell? ⟨g + 1, 0, none⟩ = some (.int .i64 zp))) (by kernel_rfl) zz0 (fun hHeld => ?_)
        refine wpAnyH_take (i := 0) (v := .int .i64 s) rfl (by kernel_rfl) (by kernel_rfl) (by kernel_rfl) (fun _ _ _ h => h) (Or.inl ⟨by kernel_rfl, fun W hSw => ?_⟩) (by assumption) ?_
        · (try dsimp only at hSw)
          go_simp
        (try simp only [Act.put, List.setIfInBounds_toArray, List.set_cons_zero, List.set_cons_succ])
        refine wpAnyH_take (i := 1) (v := (.slice (some ⟨b, off, none⟩) n c)) rfl (by kernel_rfl) (by kernel_rfl) (by kernel_rfl) (fun _ _ _ h => h) (Or.inl ⟨by kernel_rfl, fun W hSw => ?_⟩) (by assumption) ?_
        · (try dsimp only at hSw)
          go_simp
        (try simp only [Act.put, List.setIfInBounds_toArray, List.set_cons_zero, List.set_cons_succ])
        refine wpAnyH_take (i := 2) (v := .int .i64 (kk : Int)) rfl (by kernel_rfl) (by kernel_rfl) (by kernel_rfl) (fun _ _ _ h => h) (Or.inl ⟨by kernel_rfl, fun W hSw => ?_⟩) (by assumption) ?_
        · (try dsimp only at hSw)
          go_simp
        (try simp only [Act.put, List.setIfInBounds_toArray, List.set_cons_zero, List.set_cons_succ])
        refine wpAnyH_take (i := 3) (v := .pointer (some ⟨b, off + kk * 6, none⟩)) rfl (by kernel_rfl) (by kernel_rfl) (by kernel_rfl) (fun _ _ _ h => h) (Or.inl ⟨by kernel_rfl, fun W hSw => ?_⟩) (by assumption) ?_
        · (try dsimp only at hSw)
          go_simp
        (try simp only [Act.put, List.setIfInBounds_toArray, List.set_cons_zero, List.set_cons_succ])
        refine wpAnyH_take (i := 4) (v := .pointer (some ⟨b, off + kk * 6, none⟩)) rfl (by kernel_rfl) (by kernel_rfl) (by kernel_rfl) (fun _ _ _ h => h) (Or.inl ⟨by kernel_rfl, fun W hSw => ?_⟩) (by assumption) ?_
        · (try dsimp only at hSw)
          go_simp
        (try simp only [Act.put, List.setIfInBounds_toArray, List.set_cons_zero, List.set_cons_succ])
        refine wpAnyH_take (i := 5) (v := .int .i64 yp) rfl (by kernel_rfl) (by kernel_rfl) (by kernel_rfl) (fun _ _ _ h => h) (Or.inl ⟨by kernel_rfl, fun W hSw => ?_⟩) (by assumption) ?_
        · (try dsimp only at hSw)
          go_simp
        (try simp only [Act.put, List.setIfInBounds_toArray, List.set_cons_zero, List.set_cons_succ])
        refine wpAnyH_take (i := 6) (v := .pointer (some ⟨g + 1, 0, none⟩)) rfl (by kernel_rfl) (by kernel_rfl) (by kernel_rfl) (fun _ _ _ h => h) (Or.inl ⟨by kernel_rfl, fun W hSw => ?_⟩) (by assumption) ?_
        · (try dsimp only at hSw)
          go_simp
        (try simp only [Act.put, List.setIfInBounds_toArray, List.set_cons_zero, List.set_cons_succ])
        refine wpAnyH_take (i := 7) (v := .int .i64 zp) rfl (by kernel_rfl) (by kernel_rfl) (by kernel_rfl) (fun _ _ _ h => h) (Or.inl ⟨by kernel_rfl, fun W hSw => ?_⟩) (by assumption) ?_
        · (try dsimp only at hSw)
          go_simp
        (try simp only [Act.put, List.setIfInBounds_toArray, List.set_cons_zero, List.set_cons_succ])
        refine wpAnyH_ready (rs := [8]) (by kernel_rfl) (by simp) ?_
        refine AllReadyH.cons rfl (fun K hK => ?_) AllReadyH.nil
        go_simp
        refine hbt.out.mono ?_
        rintro e ux ⟨rfl, rfl⟩
        have zz1 := zz0
        go_wp2_with fail
        refine hK.out _ _ zz1 (fun hHeld => ?_)
        clear hK K
        (try simp only [Act.put, List.setIfInBounds_toArray, List.set_cons_zero, List.set_cons_succ])
        refine wpAnyH_done (by kernel_rfl) ?_ _
        (try simp only [List.getElem_toArray, List.getElem_cons_succ, List.getElem_cons_zero, Act.put, List.setIfInBounds_toArray, List.set_cons_zero, List.set_cons_succ])
        have bd : Below wr.heap.size wr wr.drew := (Below.refl _ wr).drew
        obtain ⟨w5, e5⟩ : ∃ W, wr.drew = W := ⟨_, rfl⟩
        rw [e5] at bd ⊢
        have hgl := (Array.getElem?_eq_some_iff.1 hgx'.out).1
        have hgx5 : w5.heap[g + 1]? = some (.cells #[.int .i64 zp, .int .i64 zn, .int .i64 zi, .int .i64 zs, .int .i64 zj, .int .i64 zt] 64 (0, 0)) := (bd.block (g + 1) hgl).trans hgx'.out
        have hgz5 : w5.heap[g]? = some (.cells #[.int .i64 0, .int .i64 0, .int .i64 0, .int .i64 0, .int .i64 0, .int .i64 0] 64 (0, 0)) := (bd.block g (by omega)).trans hgz.out
        have B5 := hB.out.trans (bd.mono (by have := hB.out.size; have := eg.out; omega))
        clear zz0 zz1 hHeld z0 z1 z2 z3 z4 z5 y0 y1 y2 y3 y4 y5 e5 bd hgl hgx' hgz hB
        cases bt with
        | false =>
          have hst' : Hid (BF (j + 1) = ⟨zp, zn, zi, zs, zj, zt⟩) := Lib.hid (by rw [hst.out, if_neg (by simp)])
          replace hgx5 := Lib.hid hgx5
          replace hgz5 := Lib.hid hgz5
          replace B5 := Lib.hid B5
          go_wp2_with fail
          go_roundw
          case rel => exact ⟨j + 1, kk + 1, ⟨zp, zn, zi, zs, zj, zt⟩, by go_num, hk1.out, hj1, hst', hzo, hgx5, hgz5, B5⟩
          case measure => simp [intOf]; omega
        | true =>
          have hst' : Hid (BF (j + 1) = ⟨yp, yn, yi, ys, yj, yt⟩) := Lib.hid (by rw [hst.out, if_pos rfl])
          obtain ⟨b', off', e', y0, y1, y2, y3, y4, y5⟩ := (hV.out w5 B5).atQ (hat.out j _ hy.out)
          injection e' with e'
          injection e' with e1 e2
          subst e1; subst e2
          rw [← hk0.out] at y0 y1 y2 y3 y4 y5
          simp only at y0 y1 y2 y3 y4 y5
          obtain ⟨f0, f1, f2, f3, f4, f5, c0, c1, c2, c3, c4, c5, hq5⟩ := set6 (.int .i64 yp) (.int .i64 yn) (.int .i64 yi) (.int .i64 ys) (.int .i64 yj) (.int .i64 yt) hgx5
          have on5 := only6 w5 (g + 1) (.int .i64 yp) (.int .i64 yn) (.int .i64 yi) (.int .i64 ys) (.int .i64 yj) (.int .i64 yt)
          have hgz6 := Lib.hid ((on5.block g (Array.getElem?_eq_some_iff.1 hgz5).1 (by omega)).trans hgz5)
          have B6 := Lib.hid (B5.trans (on5.below (B := g) (by have := B5.size; have := eg.out; omega) (fun k hk e => by omega)))
          replace hq5 := Lib.hid hq5
          clear on5 hgx5 hgz5 B5
          go_wp2_with fail
          go_roundw
          case rel => exact ⟨j + 1, kk + 1, ⟨yp, yn, yi, ys, yj, yt⟩, by go_num, hk1.out, hj1, hst', hyo, hq5, hgz6, B6⟩
          case measure => simp [intOf]; omega
      · have d1 : decide ((kk : Int) < (n : Int)) = false := decide_eq_false (by have := hnm.out; omega)
        have d1' : decide (kk < n) = false := decide_eq_false (by have := hnm.out; omega)
        obtain rfl : m = j := by omega
        have hR := hfull.out _ hz.out
        subst hR
        obtain ⟨f0, f1, f2, f3, f4, f5, c0, c1, c2, c3, c4, c5, hq5⟩ := set6 (.int .i64 zp) (.int .i64 zn) (.int .i64 zi) (.int .i64 zs) (.int .i64 zj) (.int .i64 zt) hgz.out
        have on5 := only6 wr g (.int .i64 zp) (.int .i64 zn) (.int .i64 zi) (.int .i64 zs) (.int .i64 zj) (.int .i64 zt)
        have b5 := Lib.hid (hB.out.trans (on5.below (B := g) (by have := hB.out.size; have := eg.out; omega) (fun k hk e => by omega)))
        replace hq5 := Lib.hid hq5
        clear on5 hgx hgz hB hkk hj hlt hz hzo hgx'
        go_wp2_with fail
        (try simp only [Exit.inBlock, Exit.then])
        refine bodyPost_ret (results_best rfl _ _ g 64 _ (0, 0) _ rfl hq5.out rfl rfl rfl) rfl ?_
        exact ⟨rfl, by rw [eg.out]; exact b5.out⟩
end Go.Proofs.Ytdeofifidjbolaa
