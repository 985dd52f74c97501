/-
  What is shown of the program's quotes: Show.
-/
import Derived.Test.YtdeofifidjbolaaImShow
import Derived.Test.YtdeofifidjbolaaIpBest
namespace Go.Proofs.Ytdeofifidjbolaa
open Go.RowKit
set_option linter.unusedVariables false
set_option linter.unusedSimpArgs false

set_option maxRecDepth 100000 in
set_option maxHeartbeats 8000000 in
theorem PShow_any (A : Option Addr) (n c : Nat) (l : List Qt) (s : Int) (w : World) (hv : Hid (HV fQt w A n l)) (hok : Hid (OkQ l)) (h1 : -9223372036854775808 ≤ s) (h2 : s ≤ 9223372036854775807) (hn : n ≤ 1000) :
    Calls Try.prog 22 #[.slice A n c, .int .i64 s] w fun e w' => e = .returned (.tuple #[.int .i64 (showP l s).1, .int .i64 (showP l s).2.1, .int .i64 (showP l s).2.2.1, .bool (showP l s).2.2.2]) ∧ Below w.heap.size w w' := by
  have HB := PBest14_any A n c l s w hv hok h1 h2 hn
  have hln := hv.out.1
  cases l with
  | nil =>
    rw [show bestP [] s = (⟨0, 0, 0, 0, 0, 0⟩, false) from rfl] at HB
    rw [show showP [] s = (0, 0, 0, false) from rfl]
    rw [show Qt.val ⟨0, 0, 0, 0, 0, 0⟩ = .agg #[.int .i64 0, .int .i64 0, .int .i64 0, .int .i64 0, .int .i64 0, .int .i64 0] from rfl] at HB
    replace HB := Lib.hid HB
    clear hv hok hln
    go_enter Try.func22, Try.ntmps22
    go_wp2_with fail
    refine HB.out.mono ?_
    rintro e w1 ⟨rfl, b1⟩
    have b2 := Lib.hid (b1.alloc b1.size (.cells #[.int .i64 0, .int .i64 0, .int .i64 0, .int .i64 0, .int .i64 0, .int .i64 0] 37))
    clear b1
    go_wp2_with fail
    (try simp only [Exit.inBlock, Exit.then])
    refine bodyPost_ret (results_show rfl _ _ _) rfl ?_
    exact ⟨rfl, b2.out⟩
  | cons x0 r =>
    rw [show bestP (x0 :: r) s = (bestFrom s x0 r, true) from rfl] at HB
    rw [show showP (x0 :: r) s = ((bestFrom s x0 r).p, mostQ (bestFrom s x0 r).p (bestFrom s x0 r).n (x0 :: r), (countQ (bestFrom s x0 r).p (x0 :: r) : Int), true) from rfl]
    have hbo : (bestFrom s x0 r).Ok := by
      rcases bestFrom_mem s x0 r with h | h
      · rw [h]; exact hok.out x0 (by simp)
      · exact hok.out _ (by simp [h])
    obtain ⟨z, ez⟩ : ∃ z, bestFrom s x0 r = z := ⟨_, rfl⟩
    rw [ez] at HB hbo ⊢
    obtain ⟨L, eL⟩ : ∃ L, x0 :: r = L := ⟨_, rfl⟩
    rw [eL] at hv hok hln ⊢
    clear ez eL
    obtain ⟨zp, zn, zi, zs, zj, zt⟩ := z
    simp only
    have hex : Hid (∀ k, k < n → ∃ y, L[k]? = some y) := Lib.hid (fun k hk => ⟨_, List.getElem?_eq_getElem (by omega)⟩)
    have hms : Hid (∀ k y, L[k]? = some y → mostQ zp zn (L.take (k + 1)) = if y.p = zp ∧ mostQ zp zn (L.take k) < y.n then y.n else mostQ zp zn (L.take k)) := Lib.hid (fun k y h => by rw [List.take_add_one, h, Option.toList_some, mostQ_snoc])
    have hcs : Hid (∀ k y, L[k]? = some y → countQ zp (L.take (k + 1)) = countQ zp (L.take k) + if y.p = zp then 1 else 0) := Lib.hid (fun k y h => by rw [List.take_add_one, h, Option.toList_some, countQ_snoc])
    have hend : Hid (L.take n = L) := Lib.hid (List.take_of_length_le (by omega))
    have hm0 : Hid (mostQ zp zn (L.take 0) = zn) := Lib.hid (by rw [List.take_zero]; rfl)
    have hc0 : Hid (countQ zp (L.take 0) = 0) := Lib.hid (by rw [List.take_zero]; rfl)
    rw [show Qt.val ⟨zp, zn, zi, zs, zj, zt⟩ = .agg #[.int .i64 zp, .int .i64 zn, .int .i64 zi, .int .i64 zs, .int .i64 zj, .int .i64 zt] from rfl] at HB
    obtain ⟨zn1, zn2⟩ := hbo.n
    replace HB := Lib.hid HB
    replace hbo := Lib.hid hbo
    replace hln := Lib.hid hln
    go_enter Try.func22, Try.ntmps22
    go_wp2_with fail
    refine HB.out.mono ?_
    rintro e w1 ⟨rfl, b1⟩
    obtain ⟨gx, egx⟩ : ∃ x, w1.heap.size = x := ⟨_, rfl⟩
    obtain ⟨w2, e2⟩ : ∃ W, w1.alloc (.cells #[.int .i64 zp, .int .i64 zn, .int .i64 zi, .int .i64 zs, .int .i64 zj, .int .i64 zt] 37) = W := ⟨_, rfl⟩
    have hgx : w2.heap[gx]? = some (.cells #[.int .i64 zp, .int .i64 zn, .int .i64 zi, .int .i64 zs, .int .i64 zj, .int .i64 zt] 37 (0, 0)) := by rw [← e2, ← egx]; exact heap_alloc_new w1 _
    have b2 : Hid (Below w.heap.size w w2) := Lib.hid (by rw [← e2]; exact b1.alloc b1.size _)
    have hv2 : Hid (∀ W, Below w2.heap.size w2 W → HV fQt W A n L) := Lib.hid (fun W b => (hv.out.below b2.out).below b)
    have hz2 : Hid (∀ W, Below w2.heap.size w2 W → W.heap[gx]? = some (.cells #[.int .i64 zp, .int .i64 zn, .int .i64 zi, .int .i64 zs, .int .i64 zj, .int .i64 zt] 37 (0, 0))) := Lib.hid (fun W b => (b.block gx (Array.getElem?_eq_some_iff.1 hgx).1).trans hgx)
    obtain ⟨z0, z1, z2, z3, z4, z5⟩ := row6 hgx
    have B20 := Lib.hid (Below.refl w2.heap.size w2)
    replace e2 := Lib.hid e2
    replace egx := Lib.hid egx
    clear HB b1 hgx hv
    go_upto_region 4 with (fail)
    rw [e2.out, egx.out]
    clear e2 egx
    go_wp2_with fail
    clear z0 z1 z2 z3 z4 z5
    go_loopw [10, 11, 26] (fun qv nv iv wr => ∃ (k cn : Nat) (q : Int), iv = .int .i64 (k : Int) ∧ qv = .int .i64 q ∧ nv = .int .i64 (cn : Int) ∧ k ≤ n ∧ cn ≤ k ∧ Hid (mostQ zp zn (L.take k) = q) ∧ Hid (countQ zp (L.take k) = cn) ∧ Hid (Below w2.heap.size w2 wr)) (fun _ _ iv _ => n - (intOf iv).toNat)
    case atStart => exact ⟨0, 0, zn, rfl, rfl, rfl, by omega, by omega, hm0, hc0, B20⟩
    case round =>
      clear B20
      obtain ⟨k, cn, q, rfl, rfl, rfl, hk, hcn, hq, hc, hB⟩ := hrel
      by_cases hlt : k < n
      · have d1 : decide ((k : Int) < (n : Int)) = true := decide_eq_true (by omega)
        have d3 : (k : Int) < (n : Int) := by omega
        obtain ⟨y, hy⟩ := hex.out k hlt
        obtain ⟨b, off, rfl, y0, y1, y2, y3, y4, y5⟩ := (hv2.out wr hB.out).atQ hy
        have hm := hms.out k y hy
        have hc2 := hcs.out k y hy
        rw [hq.out] at hm
        rw [hc.out] at hc2
        obtain ⟨yp, yn, yi, ys, yj, yt⟩ := y
        simp only at y0 y1 y2 y3 y4 y5 hm hc2
        have hk1 : k + 1 ≤ n := by omega
        have hcn1 : cn + 1 ≤ k + 1 := by omega
        have hcn2 : cn ≤ k + 1 := by omega
        have wcn : wrap64 ((cn : Int) + 1) = (cn : Int) + 1 := IntWalk.wrap64_in _ ⟨by omega, by omega⟩
        obtain ⟨gy, egy⟩ : ∃ g, wr.heap.size = g := ⟨_, rfl⟩
        obtain ⟨wA, eA⟩ : ∃ W, wr.alloc (.cells #[.int .i64 yp, .int .i64 yn, .int .i64 yi, .int .i64 ys, .int .i64 yj, .int .i64 yt] 37) = W := ⟨_, rfl⟩
        have hyA : wA.heap[gy]? = some (.cells #[.int .i64 yp, .int .i64 yn, .int .i64 yi, .int .i64 ys, .int .i64 yj, .int .i64 yt] 37 (0, 0)) := by rw [← eA, ← egy]; exact heap_alloc_new wr _
        have bA : Below wr.heap.size wr wA := by rw [← eA]; exact (Below.refl _ wr).alloc (Nat.le_refl _) _
        have BA := Lib.hid (below_up hB.out bA)
        obtain ⟨x0, x1, -, -, -, -⟩ := row6 hyA
        obtain ⟨z0, -, -, -, -, -⟩ := row6 (hz2.out wA BA.out)
        replace eA := Lib.hid eA
        replace egy := Lib.hid egy
        clear hq hc hlt hk hcn hB bA hyA
        replace hy := Lib.hid hy
        go_upto_region 8 with (fail)
        rw [eA.out, egy.out]
        clear y0 y1 y2 y3 y4 y5 eA egy
        by_cases hp : yp = zp
        · subst hp
          have dp : (yp == yp) = true := by simp
          have hc3 : Hid (countQ yp (L.take (k + 1)) = cn + 1) := Lib.hid (by rw [hc2, if_pos rfl])
          obtain ⟨mq, emq⟩ : ∃ z, max q yn = z := ⟨_, rfl⟩
          have hm2 : Hid (mostQ yp zn (L.take (k + 1)) = mq) := Lib.hid (by
            rw [hm, ← emq]
            by_cases hgt : q < yn
            · rw [if_pos ⟨rfl, hgt⟩]; omega
            · rw [if_neg (fun h => hgt h.2)]; omega)
          clear hm hc2
          go_wp2_with fail
          go_roundw
          case rel => exact ⟨k + 1, cn + 1, mq, by go_num, rfl, by go_num, hk1, hcn1, hm2, hc3, BA⟩
          case measure => simp [intOf]; omega
        · have dp : (yp == zp) = false := beq_eq_false_iff_ne.2 hp
          have dp2 : decide (yp = zp) = false := decide_eq_false hp
          have hc3 : Hid (countQ zp (L.take (k + 1)) = cn) := Lib.hid (by rw [hc2, if_neg hp]; rfl)
          have hm2 : Hid (mostQ zp zn (L.take (k + 1)) = q) := Lib.hid (by rw [hm, if_neg (fun h => hp h.1)])
          clear hm hc2 hp
          go_wp2_with fail
          go_roundw
          case rel => exact ⟨k + 1, cn, q, by go_num, rfl, rfl, hk1, hcn2, hm2, hc3, BA⟩
          case measure => simp [intOf]; omega
      · obtain rfl : n = k := by omega
        have d1 : decide ((n : Int) < (n : Int)) = false := by simp
        have e1 := hq.out
        have e2 := hc.out
        rw [hend.out] at e1 e2
        replace e1 := Lib.hid e1
        replace e2 := Lib.hid e2
        obtain ⟨z0, -, -, -, -, -⟩ := row6 (hz2.out wr hB.out)
        have b3 := Lib.hid (b2.out.trans (hB.out.mono b2.out.size))
        clear hq hc hk hcn hlt
        go_wp2_with fail
        (try simp only [Exit.inBlock, Exit.then])
        refine bodyPost_ret (results_show rfl _ _ _) rfl ?_
        exact ⟨by rw [e1.out, e2.out]; rfl, b3.out⟩
end Go.Proofs.Ytdeofifidjbolaa
