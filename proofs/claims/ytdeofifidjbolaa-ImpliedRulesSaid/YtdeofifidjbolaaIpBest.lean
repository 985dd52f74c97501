/-
  The program's best quote: Best.
-/
import Derived.Test.YtdeofifidjbolaaIpQuote
namespace Go.Proofs.Ytdeofifidjbolaa
open Go.RowKit
set_option linter.unusedVariables false
set_option linter.unusedSimpArgs false

theorem bestFrom_self (s : Int) (x : Qt) (l : List Qt) : bestFrom s x (x :: l) = bestFrom s x l := by
  rw [bestFrom]; split <;> rfl
set_option maxRecDepth 100000 in
set_option maxHeartbeats 8000000 in
theorem PBest14_any (A : Option Addr) (n c : Nat) (l : List Qt) (s : Int) (w : World) (hv : Hid (HV fQt w A n l)) (hok : Hid (OkQ l)) (h1 : -9223372036854775808 ≤ s) (h2 : s ≤ 9223372036854775807) (hn : n ≤ 1000) :
    Calls Try.prog 12 #[.slice A n c, .int .i64 s] w fun e w' => e = .returned (.tuple #[(bestP l s).1.val, .bool (bestP l s).2]) ∧ Below w.heap.size w w' := by
  obtain ⟨g, eg⟩ : ∃ g, w.heap.size = g := ⟨_, rfl⟩
  obtain ⟨W0, eW0⟩ : ∃ W, w.alloc (.cells #[.int .i64 0, .int .i64 0, .int .i64 0, .int .i64 0, .int .i64 0, .int .i64 0] 37) = W := ⟨_, rfl⟩
  have s0 : W0.heap.size = g + 1 := by rw [← eW0, World.size_alloc, eg]
  have hg0 : W0.heap[g]? = some (.cells #[.int .i64 0, .int .i64 0, .int .i64 0, .int .i64 0, .int .i64 0, .int .i64 0] 37 (0, 0)) := by rw [← eW0, ← eg]; exact heap_alloc_new w _
  have b0 : Below g w W0 := by rw [← eW0, ← eg]; exact (Below.refl _ w).alloc (Nat.le_refl _) _
  have hV : Hid (∀ W, Below g w W → HV fQt W A n l) := Lib.hid (fun W b => hv.out.below (by rw [eg]; exact b))
  have hln := hv.out.1
  replace eW0 := Lib.hid eW0
  replace eg := Lib.hid eg
  clear hv
  cases l with
  | nil =>
    obtain rfl : n = 0 := by rw [← hln]; rfl
    have d0 : (((0 : Nat) : Int) == 0) = true := by simp
    have bz := build_nopq
    rw [show bestP [] s = (⟨0, 0, 0, 0, 0, 0⟩, false) from rfl]
    obtain ⟨f0, f1, f2, f3, f4, f5, c0, c1, c2, c3, c4, c5, hq5⟩ := set6 (.int .i64 0) (.int .i64 0) (.int .i64 0) (.int .i64 0) (.int .i64 0) (.int .i64 0) hg0
    have on5 := only6 W0 g (.int .i64 0) (.int .i64 0) (.int .i64 0) (.int .i64 0) (.int .i64 0) (.int .i64 0)
    have b5 := Lib.hid (b0.trans (on5.below (B := g) (by omega) (fun k hk e => by omega)))
    replace hq5 := Lib.hid hq5
    replace hg0 := Lib.hid hg0
    replace b0 := Lib.hid b0
    clear on5
    go_enter Try.func12, Try.ntmps12
    go_upto_region 1 with (fail)
    rw [eW0.out, eg.out]
    go_wp2_with fail
    (try simp only [Exit.inBlock, Exit.then])
    refine bodyPost_ret (results_best rfl _ _ g 37 _ (0, 0) _ rfl hq5.out rfl rfl rfl) rfl ?_
    exact ⟨rfl, by rw [eg.out]; exact b5.out⟩
  | cons x0 r =>
    obtain ⟨m, em⟩ : ∃ m, r.length = m := ⟨_, rfl⟩
    have hnm : n = m + 1 := by rw [← hln, ← em]; rfl
    have d0 : ((n : Int) == 0) = false := beq_eq_false_iff_ne.2 (by omega)
    have d0' : decide ((n : Int) = 0) = false := decide_eq_false (by omega)
    have d00 : decide ((0 : Int) < (n : Int)) = true := decide_eq_true (by omega)
    have d01 : (0 : Int) < (n : Int) := by omega
    have d02 : 0 < n := by omega
    rw [show bestP (x0 :: r) s = (bestFrom s x0 r, true) from rfl]
    rw [← bestFrom_self]
    have hx0 : (x0 :: r)[0]? = some x0 := rfl
    have ho0 := hok.out x0 (by simp)
    obtain ⟨L, eL⟩ : ∃ L, x0 :: r = L := ⟨_, rfl⟩
    rw [eL] at hx0 hok hV hln ⊢
    clear eL em hnm
    have hex : Hid (∀ j, j < n → ∃ y, L[j]? = some y) := Lib.hid (fun j hj => ⟨_, List.getElem?_eq_getElem (by omega)⟩)
    have hoR : Hid (∀ (j : Nat) (y : Qt), L[j]? = some y → y.Ok) := Lib.hid (fun j y h => hok.out y (List.mem_of_getElem? h))
    obtain ⟨W1, eW1⟩ : ∃ W, W0.alloc (.cells x0.cells 37) = W := ⟨_, rfl⟩
    have b01 : Below W0.heap.size W0 W1 := by rw [← eW1]; exact (Below.refl _ W0).alloc (Nat.le_refl _) _
    have hg1 : Hid (W1.heap[g]? = some (.cells #[.int .i64 0, .int .i64 0, .int .i64 0, .int .i64 0, .int .i64 0, .int .i64 0] 37 (0, 0))) := Lib.hid ((b01.block g (by omega)).trans hg0)
    have hx1 : Hid (W1.heap[g + 1]? = some (.cells x0.cells 37 (0, 0))) := Lib.hid (by rw [← eW1, ← s0]; exact heap_alloc_new W0 _)
    have b1 : Hid (Below g w W1) := Lib.hid (b0.trans (b01.mono (by omega)))
    have s1 : Hid (g + 2 ≤ W1.heap.size) := Lib.hid (by rw [← eW1, World.size_alloc]; omega)
    obtain ⟨b, off, rfl, y0, y1, y2, y3, y4, y5⟩ := (hV.out W0 b0).atQ hx0
    obtain ⟨BF, eBF⟩ : ∃ f : Nat → Qt, (fun j => bestFrom s x0 (L.take j)) = f := ⟨_, rfl⟩
    have st0 : Hid (BF 0 = x0) := Lib.hid (by rw [← eBF]; rfl)
    have hsn : Hid (∀ j y, L[j]? = some y → BF (j + 1) = if betS s y.p (BF j).p = true then y else BF j) := Lib.hid (fun j y h => by rw [← eBF]; show bestFrom s x0 (L.take (j + 1)) = _; rw [List.take_add_one, h, Option.toList_some, bestFrom_snoc])
    have hfull : Hid (∀ z, BF n = z → bestFrom s x0 L = z) := Lib.hid (fun z e => by rw [← eBF] at e; rw [← e]; show _ = bestFrom s x0 (L.take n); rw [List.take_of_length_le (by omega)])
    obtain ⟨RB, eRB⟩ : ∃ z, bestFrom s x0 L = z := ⟨_, rfl⟩
    rw [eRB] at hfull ⊢
    clear eRB eBF hok hx0
    obtain ⟨ap, an, ai, as_, aj, at_⟩ := x0
    simp only [Nat.zero_mul, Nat.add_zero] at y0 y1 y2 y3 y4 y5
    replace eW1 : Hid (W0.alloc (.cells #[.int .i64 ap, .int .i64 an, .int .i64 ai, .int .i64 as_, .int .i64 aj, .int .i64 at_] 37) = W1) := Lib.hid eW1
    replace ho0 := Lib.hid ho0
    replace s0 := Lib.hid s0
    clear hg0 b0 b01 hln
    go_enter Try.func12, Try.ntmps12
    go_upto_region 1 with (fail)
    rw [eW0.out, eg.out]
    go_upto_region 4 with (fail)
    rw [eW1.out, s0.out]
    clear y0 y1 y2 y3 y4 y5 eW1 eW0
    go_wp2_with fail
    go_loopw [18] (fun iv wr => ∃ (j : Nat) (z : Qt), iv = .int .i64 (j : Int) ∧ j ≤ n ∧ Hid (BF j = z) ∧ Hid z.Ok ∧ Hid (wr.heap[g + 1]? = some (.cells z.cells 37 (0, 0))) ∧ Hid (wr.heap[g]? = some (.cells #[.int .i64 0, .int .i64 0, .int .i64 0, .int .i64 0, .int .i64 0, .int .i64 0] 37 (0, 0))) ∧ Hid (Below g w wr) ∧ Hid (g + 2 ≤ wr.heap.size)) (fun iv _ => (n - intOf iv).toNat)
    case atStart => exact ⟨0, ⟨ap, an, ai, as_, aj, at_⟩, rfl, by omega, st0, ho0, hx1, hg1, b1, s1⟩
    case round =>
      clear st0 ho0 hx1 hg1 b1 s1
      obtain ⟨j, z, rfl, hj, hz, hzo, hgx, hgz, hB, hsz⟩ := hrel
      obtain ⟨zp, zn, zi, zs, zj, zt⟩ := z
      by_cases hlt : j < n
      · have d1 : decide ((j : Int) < (n : Int)) = true := decide_eq_true (by omega)
        have d3 : (j : Int) < (n : Int) := by omega
        obtain ⟨y, hy⟩ := hex.out j hlt
        have hyo := Lib.hid (hoR.out j y hy)
        have hst := hsn.out j y hy
        rw [hz.out] at hst
        obtain ⟨b', off', e', y0, y1, y2, y3, y4, y5⟩ := (hV.out wr hB.out).atQ hy
        injection e' with e'
        injection e' with e1 e2
        subst e1; subst e2
        obtain ⟨yp, yn, yi, ys, yj, yt⟩ := y
        simp only at y0 y1 y2 y3 y4 y5 hst
        have hj1 : j + 1 ≤ n := by omega
        obtain ⟨gx, egx⟩ : ∃ g, wr.heap.size = g := ⟨_, rfl⟩
        obtain ⟨wA, eA⟩ : ∃ W, wr.alloc (.cells #[.int .i64 yp, .int .i64 yn, .int .i64 yi, .int .i64 ys, .int .i64 yj, .int .i64 yt] 37) = W := ⟨_, rfl⟩
        have hyA : wA.heap[gx]? = some (.cells #[.int .i64 yp, .int .i64 yn, .int .i64 yi, .int .i64 ys, .int .i64 yj, .int .i64 yt] 37 (0, 0)) := by rw [← eA, ← egx]; exact heap_alloc_new wr _
        have bA : Below wr.heap.size wr wA := by rw [← eA]; exact (Below.refl _ wr).alloc (Nat.le_refl _) _
        have hgxA : wA.heap[g + 1]? = some (.cells #[.int .i64 zp, .int .i64 zn, .int .i64 zi, .int .i64 zs, .int .i64 zj, .int .i64 zt] 37 (0, 0)) := (bA.block (g + 1) (by have := hsz.out; omega)).trans hgx.out
        have hgzA := Lib.hid ((bA.block g (by have := hsz.out; omega)).trans hgz.out)
        have BA := Lib.hid (hB.out.trans (bA.mono (by have := hsz.out; omega)))
        have szA := Lib.hid (show g + 2 ≤ wA.heap.size by have := bA.size; have := hsz.out; omega)
        have ngx : Hid (g + 2 ≤ gx) := Lib.hid (by have := hsz.out; omega)
        obtain ⟨z0, -, -, -, -, -⟩ := row6 hgxA
        obtain ⟨x0, x1, x2, x3, x4, x5⟩ := row6 hyA
        have hbt := PBetter_any s yp zp wA h1 h2
        obtain ⟨bt, ebt⟩ : ∃ t, betS s yp zp = t := ⟨_, rfl⟩
        rw [ebt] at hst hbt
        replace hst := Lib.hid hst
        replace hbt := Lib.hid hbt
        replace hy := Lib.hid hy
        replace eA := Lib.hid eA
        replace egx := Lib.hid egx
        clear hlt hz hgx hgz hB hsz bA hyA ebt hj
        go_upto_region 7 with (fail)
        rw [eA.out, egx.out]
        clear y0 y1 y2 y3 y4 y5 eA egx
        cases bt with
        | false =>
          have hst' : Hid (BF (j + 1) = ⟨zp, zn, zi, zs, zj, zt⟩) := Lib.hid (by rw [hst.out, if_neg (by simp)])
          replace hgxA := Lib.hid hgxA
          clear hst
          go_wp2_with fail
          refine hbt.out.mono ?_
          rintro e ux ⟨rfl, eux⟩
          obtain rfl := eux.symm
          go_wp2_with fail
          go_roundw
          case rel => exact ⟨j + 1, ⟨zp, zn, zi, zs, zj, zt⟩, by go_num, hj1, hst', hzo, hgxA, hgzA, BA, szA⟩
          case measure => simp [intOf]; omega
        | true =>
          have hst' : Hid (BF (j + 1) = ⟨yp, yn, yi, ys, yj, yt⟩) := Lib.hid (by rw [hst.out, if_pos rfl])
          obtain ⟨f0, f1, f2, f3, f4, f5, c0, c1, c2, c3, c4, c5, hq5⟩ := set6 (.int .i64 yp) (.int .i64 yn) (.int .i64 yi) (.int .i64 ys) (.int .i64 yj) (.int .i64 yt) hgxA
          have on5 := only6 wA (g + 1) (.int .i64 yp) (.int .i64 yn) (.int .i64 yi) (.int .i64 ys) (.int .i64 yj) (.int .i64 yt)
          have hgz6 := Lib.hid ((on5.block g (by have := szA.out; omega) (by omega)).trans hgzA.out)
          have B6 := Lib.hid (BA.out.trans (on5.below (B := g) (by have := szA.out; omega) (fun k hk e => by omega)))
          have sz6 := Lib.hid (Nat.le_trans szA.out on5.size)
          replace hq5 := Lib.hid hq5
          clear on5 hgxA hgzA BA szA hst
          go_wp2_with fail
          refine hbt.out.mono ?_
          rintro e ux ⟨rfl, eux⟩
          obtain rfl := eux.symm
          go_wp2_with fail
          go_roundw
          case rel => exact ⟨j + 1, ⟨yp, yn, yi, ys, yj, yt⟩, by go_num, hj1, hst', hyo, hq5, hgz6, B6, sz6⟩
          case measure => simp [intOf]; omega
      · obtain rfl : n = j := by omega
        have d1 : decide ((n : Int) < (n : Int)) = false := by simp
        have hR := hfull.out _ hz.out
        subst hR
        have hgx' : wr.heap[g + 1]? = some (.cells #[.int .i64 zp, .int .i64 zn, .int .i64 zi, .int .i64 zs, .int .i64 zj, .int .i64 zt] 37 (0, 0)) := hgx.out
        obtain ⟨z0, z1, z2, z3, z4, z5⟩ := row6 hgx'
        obtain ⟨f0, f1, f2, f3, f4, f5, c0, c1, c2, c3, c4, c5, hq5⟩ := set6 (.int .i64 zp) (.int .i64 zn) (.int .i64 zi) (.int .i64 zs) (.int .i64 zj) (.int .i64 zt) hgz.out
        have on5 := only6 wr g (.int .i64 zp) (.int .i64 zn) (.int .i64 zi) (.int .i64 zs) (.int .i64 zj) (.int .i64 zt)
        have b5 := Lib.hid (hB.out.trans (on5.below (B := g) (by have := hB.out.size; have := eg.out; omega) (fun k hk e => by omega)))
        replace hq5 := Lib.hid hq5
        clear on5 hgx hgz hB hj hlt hz hzo hgx'
        go_wp2_with fail
        (try simp only [Exit.inBlock, Exit.then])
        refine bodyPost_ret (results_best rfl _ _ g 37 _ (0, 0) _ rfl hq5.out rfl rfl rfl) rfl ?_
        exact ⟨rfl, by rw [eg.out]; exact b5.out⟩
end Go.Proofs.Ytdeofifidjbolaa
