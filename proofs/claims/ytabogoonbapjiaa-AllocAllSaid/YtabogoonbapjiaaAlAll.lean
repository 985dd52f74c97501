/-
  The law AllocAll: its walk.
-/
import Derived.Test.YtabogoonbapjiaaAlKnown
import Derived.Test.YtabogoonbapjiaaAlSome
import Derived.Deep.RegionHeld3
import Derived.Deep.OwnRows
import Derived.Deep.Cut
import Derived.Laws.Tables
import Derived.Laws.CopyOwn
namespace Go.Proofs.Ytabogoonbapjiaa
open Go.RowKit
set_option linter.unusedVariables false
set_option linter.unusedSimpArgs false

theorem setRow_only' (w : World) (g : Nat) (cs : Array Value) : Only (fun k => k = g) w (w.setRow g cs) := ⟨rfl, rfl, rfl, by simp [World.setRow], fun k _ hn => setRow_other w g k cs hn⟩
theorem own_at' {ad : Addr} {n c : Nat} : (Value.slice (some ad) n c).ownBlock = some ad.block := rfl
theorem holds_made (w : World) (n : Nat) : Holds (w.alloc (.cells (madeCells #[.int .i64 0] n) 2)) (some ⟨w.heap.size, 0, none⟩) n (List.replicate n 0) := by
  refine ⟨List.length_replicate, fun x hx => by rw [List.eq_of_mem_replicate hx]; exact ⟨by omega, by omega⟩, fun _ => ⟨w.heap.size, 0, rfl, fun k hk => ?_⟩⟩
  rw [Nat.zero_add, Lib.cell_of_heap (heap_alloc_new w _), ← Array.getElem?_toList, made_nums]
  simp [List.getD, hk]
theorem rep_I64 (n : Nat) : ∀ y ∈ List.replicate n (0 : Int), I64 y := fun y hy => by rw [List.eq_of_mem_replicate hy]; exact ⟨by omega, by omega⟩
set_option maxRecDepth 100000 in
set_option maxHeartbeats 8000000 in
theorem AAll_walk (p : PD) (A : Option Addr) (n cap : Nat) (L : List Or) (small : Int) (w : World) (hp : Hid (p.Fit w)) (h : Hid (HV fO w A n L)) (hok : Hid (OkO L)) (s1 : -9223372036854775808 ≤ small) (s2 : small ≤ 9223372036854775807) :
    Calls Try.prog 6 #[p.val, .slice A n cap, .int .i64 small] w fun e w' => e = .returned (.bool true) ∧ Below w.heap.size w w' := by
  obtain ⟨m, k, hm, hk, m1, k1, l30, hR, hRm, hR0, hRn⟩ := drawn_orders L small
  have okS := some_n L
  have okO := some_ok hok.out
  have hqs := qtys_len (someO L)
  obtain ⟨SO, hSO⟩ : ∃ SO, someO L = SO := ⟨_, rfl⟩
  have HS0 : Hid (∀ W, Below w.heap.size w W → Calls Try.prog 13 #[.slice A n cap] W (GaveS W SO)) := Lib.hid (fun W b => by rw [← hSO]; exact Some_any A n cap L W (Lib.hid (h.out.below b)) hok)
  rw [hSO] at hm l30 okS okO hR hRm hR0 hRn hqs
  replace hSO := Lib.hid hSO
  obtain ⟨S, hS⟩ : ∃ S, qtys SO = S := ⟨_, rfl⟩
  rw [hS] at hm okS hR hRm hR0 hRn hqs
  replace hS := Lib.hid hS
  obtain ⟨ns, hns⟩ : ∃ ns, SO.length = ns := ⟨_, rfl⟩
  rw [hns] at l30 hqs
  have iS : Hid (∀ x ∈ S, I64 x) := Lib.hid (fun x hx => by have := okS x hx; exact ⟨by omega, by omega⟩)
  have okS0 : Hid (∀ x ∈ S, 0 ≤ x ∧ x ≤ 41) := Lib.hid (fun x hx => by have := okS x hx; omega)
  have okO0 := Lib.hid okO
  clear okS okO
  replace hR := Lib.hid hR
  replace hRm := Lib.hid hRm
  replace hR0 := Lib.hid hR0
  replace hRn := Lib.hid hRn
  have HK0 : Hid (∀ W, Below w.heap.size w W → Calls Try.prog 15 #[p.val] W fun e w' => ∃ P : PD, e = .returned P.val ∧ P.Fair ∧ Below W.heap.size W w') := Lib.hid (fun W b => KProd_al p W (Lib.hid (hp.out.below b)))
  clear hp
  obtain ⟨code, A1, n1, c1, tick, low, high, wide, rule, top, least, part, A2, n2, c2, Q, R⟩ := p
  replace HK0 : Hid (∀ W, Below w.heap.size w W → Calls Try.prog 15 #[.agg #[.string (str code), .slice A1 n1 c1, .int .i64 tick, .int .i64 low, .int .i64 high, .int .i64 wide, .int .i64 rule, .int .i64 top, .int .i64 least, .int .i64 part, .slice A2 n2 c2]] W fun e w' => ∃ P : PD, e = .returned P.val ∧ P.Fair ∧ Below W.heap.size W w') := HK0
  show Calls Try.prog 6 #[.agg #[.string (str code), .slice A1 n1 c1, .int .i64 tick, .int .i64 low, .int .i64 high, .int .i64 wide, .int .i64 rule, .int .i64 top, .int .i64 least, .int .i64 part, .slice A2 n2 c2], .slice A n cap, .int .i64 small] w _
  obtain ⟨W0, eW0⟩ : ∃ W0, w.alloc (.cells #[.string (str code), .slice A1 n1 c1, .int .i64 tick, .int .i64 low, .int .i64 high, .int .i64 wide, .int .i64 rule, .int .i64 top, .int .i64 least, .int .i64 part, .slice A2 n2 c2] 28) = W0 := ⟨_, rfl⟩
  obtain ⟨pb, epb⟩ : ∃ pb, w.heap.size = pb := ⟨_, rfl⟩
  have hblk0 : Hid (W0.heap[pb]? = some (.cells #[.string (str code), .slice A1 n1 c1, .int .i64 tick, .int .i64 low, .int .i64 high, .int .i64 wide, .int .i64 rule, .int .i64 top, .int .i64 least, .int .i64 part, .slice A2 n2 c2] 28 (0, 0))) := Lib.hid (by rw [← eW0, ← epb]; exact heap_alloc_new w _)
  have hB0 : Hid (Below w.heap.size w W0) := Lib.hid (by rw [← eW0]; exact (Below.refl _ w).alloc (Nat.le_refl _) _)
  replace eW0 := Lib.hid eW0
  replace epb := Lib.hid epb
  have hpb : Hid (pb < W0.heap.size) := Lib.hid (Array.getElem?_eq_some_iff.1 hblk0.out).1
  obtain ⟨B, eB⟩ : ∃ B, W0.heap.size = B := ⟨_, rfl⟩
  rw [eB] at hpb
  replace eB := Lib.hid eB
  go_enter Try.func6, Try.ntmps6
  go_wp2_with fail
  rw [eW0.out, epb.out]
  clear eW0
  refine (HS0.out _ hB0.out).mono ?_
  rintro e w1 ⟨v, u, rfl, oo, rr, -, bb⟩
  clear HS0
  rw [eB.out] at oo rr
  obtain ⟨Ao, co, rfl, h2, l2, -, -, ato⟩ := oo.slice
  obtain ⟨Aq, cq, rfl, h3, -, l3, -, atq⟩ := rr.slice (by rw [hS.out]; exact iS.out)
  rw [hns] at h2 l2 ⊢
  rw [hS.out, hqs] at h3 l3
  rw [qtys_len, hns]
  have hB1 := Lib.hid (below_up hB0.out bb)
  have hblk1 := Lib.hid (pd_block (p := ⟨code, A1, n1, c1, tick, low, high, wide, rule, top, least, part, A2, n2, c2, Q, R⟩) hblk0.out bb)
  clear bb oo rr hblk0 hB0
  have HK := Lib.hid (HK0.out _ hB1.out)
  obtain ⟨k0, k1, k2, k3, k4, k5, k6, k7, k8, k9, k10⟩ := row11 hblk1.out
  replace h2 := Lib.hid h2
  replace h3 := Lib.hid h3
  replace ato := Lib.hid ato
  replace atq := Lib.hid atq
  clear HK0
  go_wp2_with fail
  refine HK.out.mono ?_
  rintro e w2 ⟨P, rfl, pf, b2⟩
  clear HK k0 k1 k2 k3 k4 k5 k6 k7 k8 k9 k10
  have hB2 := below_up hB1.out b2
  have hblk2 := Lib.hid (pd_block hblk1.out b2)
  have h2' := h2.out.below b2
  have h3' := h3.out.below b2
  clear hB1 hblk1 h2 h3 b2
  obtain ⟨codes, A1s, n1s, c1s, ticks, lows, highs, wides, rules, tops, leasts, parts, A2s, n2s, c2s, Qs, Rs⟩ := P
  rw [show PD.val ⟨codes, A1s, n1s, c1s, ticks, lows, highs, wides, rules, tops, leasts, parts, A2s, n2s, c2s, Qs, Rs⟩ = .agg #[.string (str codes), .slice A1s n1s c1s, .int .i64 ticks, .int .i64 lows, .int .i64 highs, .int .i64 wides, .int .i64 rules, .int .i64 tops, .int .i64 leasts, .int .i64 parts, .slice A2s n2s c2s] from rfl]
  obtain ⟨⟨ca1, ca2, ca3, ca4⟩, fr1, fr2, ft, fm, fp1, fp2⟩ := pf
  simp only at ca1 ca2 ca3 ca4 fr1 fr2 ft fm fp1 fp2
  have can := Lib.hid (PD.can_of (p := ⟨codes, A1s, n1s, c1s, ticks, lows, highs, wides, rules, tops, leasts, parts, A2s, n2s, c2s, Qs, Rs⟩) ca1 ca2 ca3 ca4)
  have one := Lib.hid (show (#[.string (str codes), .slice A1s n1s c1s, .int .i64 ticks, .int .i64 lows, .int .i64 highs, .int .i64 wides, .int .i64 rules, .int .i64 tops, .int .i64 leasts, .int .i64 parts, .slice A2s n2s c2s] : Array Value).all (·.oneCell') = true from by simp [Value.oneCell'])
  obtain ⟨w3, ew3⟩ : ∃ W, w2.setRow pb #[.string (str codes), .slice A1s n1s c1s, .int .i64 ticks, .int .i64 lows, .int .i64 highs, .int .i64 wides, .int .i64 rules, .int .i64 tops, .int .i64 leasts, .int .i64 parts, .slice A2s n2s c2s] = W := ⟨_, rfl⟩
  have hblk3 : w3.heap[pb]? = some (.cells #[.string (str codes), .slice A1s n1s c1s, .int .i64 ticks, .int .i64 lows, .int .i64 highs, .int .i64 wides, .int .i64 rules, .int .i64 tops, .int .i64 leasts, .int .i64 parts, .slice A2s n2s c2s] 28 (0, 0)) := by rw [← ew3]; exact setRow_heap w2 pb _ #[.string (str codes), .slice A1s n1s c1s, .int .i64 ticks, .int .i64 lows, .int .i64 highs, .int .i64 wides, .int .i64 rules, .int .i64 tops, .int .i64 leasts, .int .i64 parts, .slice A2s n2s c2s] 28 _ hblk2.out
  have onl := setRow_only' w2 pb #[.string (str codes), .slice A1s n1s c1s, .int .i64 ticks, .int .i64 lows, .int .i64 highs, .int .i64 wides, .int .i64 rules, .int .i64 tops, .int .i64 leasts, .int .i64 parts, .slice A2s n2s c2s]
  rw [ew3] at onl
  have hpbB := hpb.out
  have hwp : w.heap.size = pb := epb.out
  have hB3 := Lib.hid (hB2.trans (onl.below (B := w.heap.size) hB2.size (fun q hq e => by omega)))
  have h2 := Lib.hid (h2'.only onl (fun b off e e2 => by have := (ato.out _ e).2.2.1; have e3 : b = pb := e2; subst e3; have : B ≤ b := this; omega))
  have h3 := Lib.hid (h3'.only onl (fun ad e e2 => by have := (atq.out _ e).1; omega))
  obtain ⟨X, hX⟩ : ∃ X, allocL rules tops leasts parts SO (k : Int) = X := ⟨_, rfl⟩
  have iX := Lib.hid (alloc_cases rules tops leasts parts SO (k : Int)).2
  obtain ⟨lX, sX, fX⟩ := alloc_right (rule := rules) (top := tops) (least := leasts) (part := parts) (L := SO) (q := (k : Int)) (by rw [hS.out]; exact hR.out) fr1 fr2 ft fm fp1 fp2
  rw [hX] at iX lX sX fX
  rw [hns] at lX fX
  rw [hS.out] at fX
  have aAll := alloc_all (rule := rules) (top := tops) (least := leasts) (part := parts) (L := SO) (by rw [hS.out, hm]; exact hRm.out) fr1 fr2 ft fm fp1 fp2
  rw [hS.out, hm] at aAll
  have aNone := alloc_none (rule := rules) (top := tops) (least := leasts) (part := parts) (L := SO) (by rw [hS.out]; exact hR0.out) fr1 fr2 ft fm fp1 fp2
  rw [hns] at aNone
  have aBad := alloc_bad (rule := rules) (top := tops) (least := leasts) (part := parts) (L := SO) (q := (m : Int) + 1) (by rw [hS.out]; exact hRn.out)
  have CA : Hid (∀ (W : World) (q : Int) (Z : List Int), -9223372036854775808 ≤ q → q ≤ 9223372036854775807 → allocL rules tops leasts parts SO q = Z → HV fO W Ao ns SO → Calls Try.prog 9 #[.agg #[.string (str codes), .slice A1s n1s c1s, .int .i64 ticks, .int .i64 lows, .int .i64 highs, .int .i64 wides, .int .i64 rules, .int .i64 tops, .int .i64 leasts, .int .i64 parts, .slice A2s n2s c2s], .slice Ao ns co, .int .i64 q] W (Gave W Z)) := Lib.hid (fun W q Z a b e hM => by
    rw [← e]
    exact AShare_any ⟨codes, A1s, n1s, c1s, ticks, lows, highs, wides, rules, tops, leasts, parts, A2s, n2s, c2s, Qs, Rs⟩ Ao ns co SO q W (by omega) a b can (Lib.hid hM) okO0)
  have K3 := hblk3
  replace hblk3 := Lib.hid hblk3
  replace ew3 := Lib.hid ew3
  replace hX := Lib.hid hX
  replace fX := Lib.hid fX
  replace sX := Lib.hid sX
  replace aAll := Lib.hid aAll
  replace aNone := Lib.hid aNone
  replace aBad := Lib.hid aBad
  clear onl hB2 h2' h3' hwp hpbB ato atq hR hRm hR0 hRn fr1 fr2 ft fm fp1 fp2 ca1 ca2 ca3 ca4 can
  go_wp2_with (refine wpList_store_row rfl 28 (.tmp 3) (.tmp 21) rfl pb #[.string (str codes), .slice A1s n1s c1s, .int .i64 ticks, .int .i64 lows, .int .i64 highs, .int .i64 wides, .int .i64 rules, .int .i64 tops, .int .i64 leasts, .int .i64 parts, .slice A2s n2s c2s] rfl rfl 28 #[.string (str code), .slice A1 n1 c1, .int .i64 tick, .int .i64 low, .int .i64 high, .int .i64 wide, .int .i64 rule, .int .i64 top, .int .i64 least, .int .i64 part, .slice A2 n2 c2] hblk2.out rfl rfl one.out ?_)
  rw [ew3.out]
  clear ew3 one hblk2 K3
  go_loop [9, 10] (fun u i => ∃ (t : Nat) (y : Int), i = .int .i64 t ∧ u = .int .i64 y ∧ t ≤ ns ∧ Hid (sumL (S.take t) = y) ∧ 0 ≤ y ∧ y ≤ 41 * (t : Int)) (fun _ i => ns - (intOf i).toNat)
  case atStart => exact ⟨0, 0, rfl, rfl, by omega, Lib.hid (by rw [List.take_zero]; rfl), by omega, by omega⟩
  case round =>
    obtain ⟨t, y, rfl, rfl, ht, hy, y0, y1⟩ := hrel
    by_cases hlt : t < ns
    · have d1 : decide ((t : Int) < (ns : Int)) = true := decide_eq_true (by omega)
      have d3 : (t : Int) < (ns : Int) := by omega
      obtain ⟨b1, o1', rfl, q1'⟩ := h3.out.2.2 (by omega)
      have c1' := q1' t hlt
      have hst := sumL_take S t (by omega)
      have hx0 := okS0.out _ (getD_mem (show t < S.length by omega))
      generalize S.getD t 0 = x at *
      rw [hy.out] at hst
      replace hst := Lib.hid hst
      clear q1'
      go_wp2_with fail
      go_round
      case rel => exact ⟨t + 1, y + x, by go_num, by go_num, by omega, hst, by omega, by omega⟩
      case measure => simp [intOf]; omega
    · obtain rfl : ns = t := by omega
      have d1 : decide ((ns : Int) < (ns : Int)) = false := by simp
      have e9 : y = (m : Int) := by rw [← hy.out, List.take_of_length_le (by omega)]; exact hm
      subst e9
      clear hy ht hlt y0 y1
      have HW := Within_any small m w3 (by omega) s1 s2
      rw [hk] at HW
      replace HW := Lib.hid HW
      go_wp2_with fail
      refine HW.out.mono ?_
      rintro e w3 ⟨rfl, rfl⟩
      have HS := Lib.hid (CA.out w3 (k : Int) X (by omega) (by omega) hX.out h2.out)
      obtain ⟨k0, k1, k2, k3, k4, k5, k6, k7, k8, k9, k10⟩ := row11 hblk3.out
      clear HW
      go_wp2_with fail
      refine HS.out.mono ?_
      rintro e w4 ⟨v, rfl, rr, bb⟩
      clear HS k0 k1 k2 k3 k4 k5 k6 k7 k8 k9 k10
      obtain ⟨Ax, cx, rfl, hx, -, -, -, -⟩ := rr.slice iX.out
      rw [lX] at hx ⊢
      have hblk4 := Lib.hid (pd_block (p := ⟨codes, A1s, n1s, c1s, ticks, lows, highs, wides, rules, tops, leasts, parts, A2s, n2s, c2s, Qs, Rs⟩) hblk3.out bb)
      have h24 := Lib.hid (h2.out.below bb)
      have h34 := Lib.hid (h3.out.below bb)
      have hB4 := Lib.hid (below_up hB3.out bb)
      replace hx := Lib.hid hx
      clear rr bb hblk3 h2 h3 hB3
      go_wp2_with fail
      go_loopw [13, 14] (fun u i wr => ∃ (t : Nat) (y : Int), i = .int .i64 t ∧ u = .int .i64 y ∧ t ≤ ns ∧ Hid (sumL (X.take t) = y) ∧ 0 ≤ y ∧ y ≤ 41 * (t : Int) ∧ ∃ d, wr = w4.drewN d) (fun _ i _ => ns - (intOf i).toNat)
      case atStart => exact ⟨0, 0, rfl, rfl, by omega, Lib.hid (by rw [List.take_zero]; rfl), by omega, by omega, 0, rfl⟩
      case round =>
        obtain ⟨t, y, rfl, rfl, ht, hy, y0, y1, d, rfl⟩ := hrel
        by_cases hlt : t < ns
        · have d1 : decide ((t : Int) < (ns : Int)) = true := decide_eq_true (by omega)
          have d3 : (t : Int) < (ns : Int) := by omega
          have d6 : decide ((ns : Int) ≤ (t : Int)) = false := decide_eq_false (by omega)
          have d7 : decide (ns ≤ t) = false := decide_eq_false (by omega)
          obtain ⟨b1, o1', rfl, q1'⟩ := hx.out.2.2 (by omega)
          obtain ⟨b2, o2', rfl, q2'⟩ := h34.out.2.2 (by omega)
          have c1' := q1' t hlt
          have c2' := q2' t hlt
          have hst := sumL_take X t (by omega)
          obtain ⟨v0, v1⟩ := fX.out t hlt
          have hx0 := okS0.out _ (getD_mem (show t < S.length by omega))
          generalize S.getD t 0 = x at *
          generalize X.getD t 0 = v at *
          rw [hy.out] at hst
          replace hst := Lib.hid hst
          have d4 : decide (v < 0) = false := decide_eq_false (by omega)
          have d5 : decide (x < v) = false := decide_eq_false (by omega)
          clear q1' q2'
          go_wp2_with fail
          go_quiet (fail)
          go_wp2_with fail
          go_roundw
          case rel => exact ⟨t + 1, y + v, by go_num, by go_num, by omega, hst, by omega, by omega, _, rfl⟩
          case measure => simp [intOf]; omega
        · obtain rfl : ns = t := by omega
          have d1 : decide ((ns : Int) < (ns : Int)) = false := by simp
          have e9 : y = (k : Int) := by rw [← hy.out, List.take_of_length_le (by omega)]; exact sX.out
          subst e9
          obtain ⟨wz, hwz⟩ : ∃ W, w4.drewN d = W := ⟨_, rfl⟩
          have hVz : Hid (HV fO wz Ao ns SO) := Lib.hid (by rw [← hwz]; exact h24.out)
          have hSz : Hid (Holds wz Aq ns S) := Lib.hid (by rw [← hwz]; exact h34.out)
          have hpz : Hid (wz.heap[pb]? = some (.cells #[.string (str codes), .slice A1s n1s c1s, .int .i64 ticks, .int .i64 lows, .int .i64 highs, .int .i64 wides, .int .i64 rules, .int .i64 tops, .int .i64 leasts, .int .i64 parts, .slice A2s n2s c2s] 28 (0, 0))) := Lib.hid (by rw [← hwz]; exact hblk4.out)
          have hBz := Lib.hid (below_drewN hB4.out d)
          rw [hwz] at hBz ⊢
          clear hwz h24 h34 hblk4 hB4 hx hy ht hlt y0 y1
          go_upto_region 17 with (fail)
          obtain ⟨u0, eu0⟩ : ∃ W, wz.drew = W := ⟨_, rfl⟩
          have hSof : Hid (∀ W W' : World, (fun W : World => W.cell? ⟨pb, 0, none⟩ = some (.string (str codes)) ∧ W.cell? ⟨pb, 1, none⟩ = some (.slice A1s n1s c1s) ∧ W.cell? ⟨pb, 2, none⟩ = some (.int .i64 ticks) ∧ W.cell? ⟨pb, 3, none⟩ = some (.int .i64 lows) ∧ W.cell? ⟨pb, 4, none⟩ = some (.int .i64 highs) ∧ W.cell? ⟨pb, 5, none⟩ = some (.int .i64 wides) ∧ W.cell? ⟨pb, 6, none⟩ = some (.int .i64 rules) ∧ W.cell? ⟨pb, 7, none⟩ = some (.int .i64 tops) ∧ W.cell? ⟨pb, 8, none⟩ = some (.int .i64 leasts) ∧ W.cell? ⟨pb, 9, none⟩ = some (.int .i64 parts) ∧ W.cell? ⟨pb, 10, none⟩ = some (.slice A2s n2s c2s) ∧ Below wz.heap.size wz W) W → Below W.heap.size W W' → (fun W : World => W.cell? ⟨pb, 0, none⟩ = some (.string (str codes)) ∧ W.cell? ⟨pb, 1, none⟩ = some (.slice A1s n1s c1s) ∧ W.cell? ⟨pb, 2, none⟩ = some (.int .i64 ticks) ∧ W.cell? ⟨pb, 3, none⟩ = some (.int .i64 lows) ∧ W.cell? ⟨pb, 4, none⟩ = some (.int .i64 highs) ∧ W.cell? ⟨pb, 5, none⟩ = some (.int .i64 wides) ∧ W.cell? ⟨pb, 6, none⟩ = some (.int .i64 rules) ∧ W.cell? ⟨pb, 7, none⟩ = some (.int .i64 tops) ∧ W.cell? ⟨pb, 8, none⟩ = some (.int .i64 leasts) ∧ W.cell? ⟨pb, 9, none⟩ = some (.int .i64 parts) ∧ W.cell? ⟨pb, 10, none⟩ = some (.slice A2s n2s c2s) ∧ Below wz.heap.size wz W) W') := Lib.hid (fun W W' hs b => ⟨(b.cell (World.block_lt_of_cell? W _ hs.1)).trans hs.1, (b.cell (World.block_lt_of_cell? W _ hs.2.1)).trans hs.2.1, (b.cell (World.block_lt_of_cell? W _ hs.2.2.1)).trans hs.2.2.1, (b.cell (World.block_lt_of_cell? W _ hs.2.2.2.1)).trans hs.2.2.2.1, (b.cell (World.block_lt_of_cell? W _ hs.2.2.2.2.1)).trans hs.2.2.2.2.1, (b.cell (World.block_lt_of_cell? W _ hs.2.2.2.2.2.1)).trans hs.2.2.2.2.2.1, (b.cell (World.block_lt_of_cell? W _ hs.2.2.2.2.2.2.1)).trans hs.2.2.2.2.2.2.1, (b.cell (World.block_lt_of_cell? W _ hs.2.2.2.2.2.2.2.1)).trans hs.2.2.2.2.2.2.2.1, (b.cell (World.block_lt_of_cell? W _ hs.2.2.2.2.2.2.2.2.1)).trans hs.2.2.2.2.2.2.2.2.1, (b.cell (World.block_lt_of_cell? W _ hs.2.2.2.2.2.2.2.2.2.1)).trans hs.2.2.2.2.2.2.2.2.2.1, (b.cell (World.block_lt_of_cell? W _ hs.2.2.2.2.2.2.2.2.2.2.1)).trans hs.2.2.2.2.2.2.2.2.2.2.1, hs.2.2.2.2.2.2.2.2.2.2.2.trans (b.mono hs.2.2.2.2.2.2.2.2.2.2.2.size)⟩)
          have bzz : Below wz.heap.size wz wz.drew := (Below.refl _ wz).drew
          obtain ⟨y0, y1, y2, y3, y4, y5, y6, y7, y8, y9, y10⟩ := row11 (pd_block (p := ⟨codes, A1s, n1s, c1s, ticks, lows, highs, wides, rules, tops, leasts, parts, A2s, n2s, c2s, Qs, Rs⟩) hpz.out bzz)
          have z0 : (fun W : World => W.cell? ⟨pb, 0, none⟩ = some (.string (str codes)) ∧ W.cell? ⟨pb, 1, none⟩ = some (.slice A1s n1s c1s) ∧ W.cell? ⟨pb, 2, none⟩ = some (.int .i64 ticks) ∧ W.cell? ⟨pb, 3, none⟩ = some (.int .i64 lows) ∧ W.cell? ⟨pb, 4, none⟩ = some (.int .i64 highs) ∧ W.cell? ⟨pb, 5, none⟩ = some (.int .i64 wides) ∧ W.cell? ⟨pb, 6, none⟩ = some (.int .i64 rules) ∧ W.cell? ⟨pb, 7, none⟩ = some (.int .i64 tops) ∧ W.cell? ⟨pb, 8, none⟩ = some (.int .i64 leasts) ∧ W.cell? ⟨pb, 9, none⟩ = some (.int .i64 parts) ∧ W.cell? ⟨pb, 10, none⟩ = some (.slice A2s n2s c2s) ∧ Below wz.heap.size wz W) wz.drew := ⟨y0, y1, y2, y3, y4, y5, y6, y7, y8, y9, y10, bzz⟩
          have wm1 : IntKind.i64.wrap ((m : Int) + 1) = (m : Int) + 1 := IntWalk.i64_in _ (by omega)
          have hmk : ∀ W : World, (Instr.makeSlice 26 (.int .i64 (ns : Int)) (.int .i64 (ns : Int))).run Try.prog W = .ok (.slice (some ⟨W.heap.size, 0, none⟩) ns ns) (W.alloc (.cells (madeCells #[.int .i64 0] ns) 2)) := fun W => run_make_row' _ _ _ 8 Try.underlying26 info_num rfl .i64 .i64 ns (by omega) (by omega) W
          clear y0 y1 y2 y3 y4 y5 y6 y7 y8 y9 y10 bzz hpz hX sX fX hm
          refine wp_region_held_drew (S := (fun W : World => W.cell? ⟨pb, 0, none⟩ = some (.string (str codes)) ∧ W.cell? ⟨pb, 1, none⟩ = some (.slice A1s n1s c1s) ∧ W.cell? ⟨pb, 2, none⟩ = some (.int .i64 ticks) ∧ W.cell? ⟨pb, 3, none⟩ = some (.int .i64 lows) ∧ W.cell? ⟨pb, 4, none⟩ = some (.int .i64 highs) ∧ W.cell? ⟨pb, 5, none⟩ = some (.int .i64 wides) ∧ W.cell? ⟨pb, 6, none⟩ = some (.int .i64 rules) ∧ W.cell? ⟨pb, 7, none⟩ = some (.int .i64 tops) ∧ W.cell? ⟨pb, 8, none⟩ = some (.int .i64 leasts) ∧ W.cell? ⟨pb, 9, none⟩ = some (.int .i64 parts) ∧ W.cell? ⟨pb, 10, none⟩ = some (.slice A2s n2s c2s) ∧ Below wz.heap.size wz W)) (by kernel_rfl) z0 (fun hHeld => ?_)
          rw [eu0] at z0 hHeld ⊢
          refine wpAnyH_take (i := 0) (v := .slice Ax ns cx) rfl (by kernel_rfl) (by kernel_rfl) (by kernel_rfl) (fun _ _ _ h => h) (Or.inl ⟨by kernel_rfl, fun W hSw => ?_⟩) (by assumption) ?_
          · (try dsimp only at hSw)
            go_simp
          (try simp only [Act.put, List.setIfInBounds_toArray, List.set_cons_zero, List.set_cons_succ])
          refine wpAnyH_take (i := 1) (v := .int .i64 (ns : Int)) rfl (by kernel_rfl) (by kernel_rfl) (by kernel_rfl) (fun _ _ _ h => h) (Or.inl ⟨by kernel_rfl, fun W hSw => ?_⟩) (by assumption) ?_
          · (try dsimp only at hSw)
            go_simp
          (try simp only [Act.put, List.setIfInBounds_toArray, List.set_cons_zero, List.set_cons_succ])
          refine wpAnyH_take (i := 2) (v := .slice Ao ns co) rfl (by kernel_rfl) (by kernel_rfl) (by kernel_rfl) (fun _ _ _ h => h) (Or.inl ⟨by kernel_rfl, fun W hSw => ?_⟩) (by assumption) ?_
          · (try dsimp only at hSw)
            go_simp
          (try simp only [Act.put, List.setIfInBounds_toArray, List.set_cons_zero, List.set_cons_succ])
          refine wpAnyH_take (i := 3) (v := .int .i64 (ns : Int)) rfl (by kernel_rfl) (by kernel_rfl) (by kernel_rfl) (fun _ _ _ h => h) (Or.inl ⟨by kernel_rfl, fun W hSw => ?_⟩) (by assumption) ?_
          · (try dsimp only at hSw)
            go_simp
          (try simp only [Act.put, List.setIfInBounds_toArray, List.set_cons_zero, List.set_cons_succ])
          refine wpAnyH_take (i := 4) (v := .bool true) rfl (by kernel_rfl) (by kernel_rfl) (by kernel_rfl) (fun _ _ _ h => h) (Or.inl ⟨by kernel_rfl, fun W hSw => ?_⟩) (by assumption) ?_
          · (try dsimp only at hSw)
            go_simp
          (try simp only [Act.put, List.setIfInBounds_toArray, List.set_cons_zero, List.set_cons_succ])
          refine wpAnyH_take (i := 5) (v := .bool true) rfl (by kernel_rfl) (by kernel_rfl) (by kernel_rfl) (fun _ _ _ h => h) (Or.inl ⟨by kernel_rfl, fun W hSw => ?_⟩) (by assumption) ?_
          · (try dsimp only at hSw)
            go_simp
          (try simp only [Act.put, List.setIfInBounds_toArray, List.set_cons_zero, List.set_cons_succ])
          refine wpAnyH_take (i := 6) (v := .int .i64 (k : Int)) rfl (by kernel_rfl) (by kernel_rfl) (by kernel_rfl) (fun _ _ _ h => h) (Or.inl ⟨by kernel_rfl, fun W hSw => ?_⟩) (by assumption) ?_
          · (try dsimp only at hSw)
            go_simp
          (try simp only [Act.put, List.setIfInBounds_toArray, List.set_cons_zero, List.set_cons_succ])
          refine wpAnyH_take (i := 7) (v := .int .i64 (k : Int)) rfl (by kernel_rfl) (by kernel_rfl) (by kernel_rfl) (fun _ _ _ h => h) (Or.inl ⟨by kernel_rfl, fun W hSw => ?_⟩) (by assumption) ?_
          · (try dsimp only at hSw)
            go_simp
          (try simp only [Act.put, List.setIfInBounds_toArray, List.set_cons_zero, List.set_cons_succ])
          refine wpAnyH_take (i := 8) (v := .bool true) rfl (by kernel_rfl) (by kernel_rfl) (by kernel_rfl) (fun _ _ _ h => h) (Or.inl ⟨by kernel_rfl, fun W hSw => ?_⟩) (by assumption) ?_
          · (try dsimp only at hSw)
            go_simp
          (try simp only [Act.put, List.setIfInBounds_toArray, List.set_cons_zero, List.set_cons_succ])
          refine wpAnyH_take (i := 9) (v := .bool true) rfl (by kernel_rfl) (by kernel_rfl) (by kernel_rfl) (fun _ _ _ h => h) (Or.inl ⟨by kernel_rfl, fun W hSw => ?_⟩) (by assumption) ?_
          · (try dsimp only at hSw)
            go_simp
          (try simp only [Act.put, List.setIfInBounds_toArray, List.set_cons_zero, List.set_cons_succ])
          refine wpAnyH_take (i := 10) (v := .bool true) rfl (by kernel_rfl) (by kernel_rfl) (by kernel_rfl) (fun _ _ _ h => h) (Or.inl ⟨by kernel_rfl, fun W hSw => ?_⟩) (by assumption) ?_
          · (try dsimp only at hSw)
            go_simp
          (try simp only [Act.put, List.setIfInBounds_toArray, List.set_cons_zero, List.set_cons_succ])
          refine wpAnyH_take (i := 11) (v := .agg #[.string (str codes), .slice A1s n1s c1s, .int .i64 ticks, .int .i64 lows, .int .i64 highs, .int .i64 wides, .int .i64 rules, .int .i64 tops, .int .i64 leasts, .int .i64 parts, .slice A2s n2s c2s]) rfl (by kernel_rfl) (by kernel_rfl) (by kernel_rfl) (fun _ _ _ h => h) (Or.inl ⟨by kernel_rfl, fun W hSw => ?_⟩) (by assumption) ?_
          · (try dsimp only at hSw)
            go_simp
          (try simp only [Act.put, List.setIfInBounds_toArray, List.set_cons_zero, List.set_cons_succ])
          refine wpAnyH_take (i := 12) (v := .slice Ao ns co) rfl (by kernel_rfl) (by kernel_rfl) (by kernel_rfl) (fun _ _ _ h => h) (Or.inl ⟨by kernel_rfl, fun W hSw => ?_⟩) (by assumption) ?_
          · (try dsimp only at hSw)
            go_simp
          (try simp only [Act.put, List.setIfInBounds_toArray, List.set_cons_zero, List.set_cons_succ])
          refine wpAnyH_take (i := 13) (v := .int .i64 (m : Int)) rfl (by kernel_rfl) (by kernel_rfl) (by kernel_rfl) (fun _ _ _ h => h) (Or.inl ⟨by kernel_rfl, fun W hSw => ?_⟩) (by assumption) ?_
          · (try dsimp only at hSw)
            go_simp
          (try simp only [Act.put, List.setIfInBounds_toArray, List.set_cons_zero, List.set_cons_succ])
          refine wpAnyH_take (i := 15) (v := .slice Aq ns cq) rfl (by kernel_rfl) (by kernel_rfl) (by kernel_rfl) (fun _ _ _ h => h) (Or.inl ⟨by kernel_rfl, fun W hSw => ?_⟩) (by assumption) ?_
          · (try dsimp only at hSw)
            go_simp
          (try simp only [Act.put, List.setIfInBounds_toArray, List.set_cons_zero, List.set_cons_succ])
          refine wpAnyH_ready (rs := [14]) (by kernel_rfl) (by simp) ?_
          refine AllReadyH.cons rfl (fun K hK => ?_) AllReadyH.nil
          go_simp
          refine (CA.out u0 (m : Int) S (by omega) (by omega) aAll.out (hVz.out.below z0.2.2.2.2.2.2.2.2.2.2.2)).mono ?_
          rintro e u1 ⟨v, rfl, rr, bb⟩
          obtain ⟨Pm, dcm, rfl, pm, -, -, -, -⟩ := rr.slice iS.out
          rw [hqs] at pm ⊢
          have z1 := hSof.out _ _ z0 bb
          replace pm := Lib.hid pm
          clear rr bb
          go_wp2_with fail
          refine hK.out _ _ z1 (fun hHeld => ?_)
          clear hK K
          (try simp only [Act.put, List.setIfInBounds_toArray, List.set_cons_zero, List.set_cons_succ])
          refine wpAnyH_ready (rs := [16]) (by kernel_rfl) (by simp) ?_
          refine AllReadyH.cons rfl (fun K hK => ?_) AllReadyH.nil
          go_simp
          refine (Same_yes Pm Aq ns dcm cq S u1 (by omega) pm (Lib.hid (hSz.out.below z1.2.2.2.2.2.2.2.2.2.2.2))).mono ?_
          rintro e ux ⟨rfl, dd, rfl⟩
          have z2 := hSof.out _ _ z1 (below_drewN (Below.refl u1.heap.size u1) dd)
          clear pm
          obtain ⟨u2, hu2⟩ : ∃ x, u1.drewN dd = x := ⟨_, rfl⟩
          rw [hu2] at z2 ⊢
          clear hu2
          go_wp2_with fail
          refine hK.out _ _ z2 (fun hHeld => ?_)
          clear hK K
          (try simp only [Act.put, List.setIfInBounds_toArray, List.set_cons_zero, List.set_cons_succ])
          refine wpAnyH_take (i := 17) (v := .bool true) rfl (by kernel_rfl) (by kernel_rfl) (by kernel_rfl) (fun _ _ _ h => h) (Or.inl ⟨by kernel_rfl, fun W hSw => ?_⟩) (by assumption) ?_
          · (try dsimp only at hSw)
            go_simp
          (try simp only [Act.put, List.setIfInBounds_toArray, List.set_cons_zero, List.set_cons_succ])
          refine wpAnyH_take (i := 18) (v := .bool true) rfl (by kernel_rfl) (by kernel_rfl) (by kernel_rfl) (fun _ _ _ h => h) (Or.inl ⟨by kernel_rfl, fun W hSw => ?_⟩) (by assumption) ?_
          · (try dsimp only at hSw)
            go_simp
          (try simp only [Act.put, List.setIfInBounds_toArray, List.set_cons_zero, List.set_cons_succ])
          refine wpAnyH_take (i := 19) (v := .agg #[.string (str codes), .slice A1s n1s c1s, .int .i64 ticks, .int .i64 lows, .int .i64 highs, .int .i64 wides, .int .i64 rules, .int .i64 tops, .int .i64 leasts, .int .i64 parts, .slice A2s n2s c2s]) rfl (by kernel_rfl) (by kernel_rfl) (by kernel_rfl) (fun _ _ _ h => h) (Or.inl ⟨by kernel_rfl, fun W hSw => ?_⟩) (by assumption) ?_
          · (try dsimp only at hSw)
            go_simp
          (try simp only [Act.put, List.setIfInBounds_toArray, List.set_cons_zero, List.set_cons_succ])
          refine wpAnyH_take (i := 20) (v := .slice Ao ns co) rfl (by kernel_rfl) (by kernel_rfl) (by kernel_rfl) (fun _ _ _ h => h) (Or.inl ⟨by kernel_rfl, fun W hSw => ?_⟩) (by assumption) ?_
          · (try dsimp only at hSw)
            go_simp
          (try simp only [Act.put, List.setIfInBounds_toArray, List.set_cons_zero, List.set_cons_succ])
          refine wpAnyH_take (i := 22) (v := .slice Ao ns co) rfl (by kernel_rfl) (by kernel_rfl) (by kernel_rfl) (fun _ _ _ h => h) (Or.inl ⟨by kernel_rfl, fun W hSw => ?_⟩) (by assumption) ?_
          · (try dsimp only at hSw)
            go_simp
          (try simp only [Act.put, List.setIfInBounds_toArray, List.set_cons_zero, List.set_cons_succ])
          refine wpAnyH_take (i := 23) (v := .int .i64 (ns : Int)) rfl (by kernel_rfl) (by kernel_rfl) (by kernel_rfl) (fun _ _ _ h => h) (Or.inl ⟨by kernel_rfl, fun W hSw => ?_⟩) (by assumption) ?_
          · (try dsimp only at hSw)
            go_simp
          (try simp only [Act.put, List.setIfInBounds_toArray, List.set_cons_zero, List.set_cons_succ])
          refine wpAnyH_ready (rs := [21, 24]) (by kernel_rfl) (by simp) ?_
          refine AllReadyH.cons rfl (fun K hK => ?_) (AllReadyH.cons rfl (fun K hK => ?_) AllReadyH.nil)
          · go_simp
            refine (CA.out u2 0 (List.replicate ns 0) (by omega) (by omega) aNone.out (hVz.out.below z2.2.2.2.2.2.2.2.2.2.2.2)).mono ?_
            rintro e u3 ⟨v, rfl, rr, bb⟩
            obtain ⟨Po, dco, rfl, po, -, -, -, -⟩ := rr.slice (rep_I64 ns)
            rw [List.length_replicate] at po ⊢
            have z3 := hSof.out _ _ z2 bb
            replace po := Lib.hid po
            clear rr bb
            go_wp2_with fail
            refine hK.out _ _ z3 (fun hHeld => ?_)
            clear hK K
            (try simp only [Act.put, List.setIfInBounds_toArray, List.set_cons_zero, List.set_cons_succ])
            refine wpAnyH_ready (rs := [24]) (by kernel_rfl) (by simp) ?_
            refine AllReadyH.cons rfl (fun K hK => ?_) AllReadyH.nil
            go_simp
            have z4 := hSof.out _ _ z3 ((Below.refl u3.heap.size u3).alloc (Nat.le_refl _) (.cells (madeCells #[.int .i64 0] ns) 2))
            have pz := holds_made u3 ns
            replace po := Lib.hid (po.out.alloc (.cells (madeCells #[.int .i64 0] ns) 2))
            obtain ⟨u4, eu⟩ : ∃ x, u3.alloc (.cells (madeCells #[.int .i64 0] ns) 2) = x := ⟨_, rfl⟩
            obtain ⟨gb, eg⟩ : ∃ x, u3.heap.size = x := ⟨_, rfl⟩
            rw [eu] at z4 pz po ⊢
            rw [eg] at pz ⊢
            clear eu eg
            replace pz := Lib.hid pz
            refine hK.out _ _ z4 (fun hHeld => ?_)
            clear hK K
            (try simp only [Act.put, List.setIfInBounds_toArray, List.set_cons_zero, List.set_cons_succ])
            refine wpAnyH_ready (rs := [25]) (by kernel_rfl) (by simp) ?_
            refine AllReadyH.cons rfl (fun K hK => ?_) AllReadyH.nil
            go_simp
            refine (Same_yes Po (some ⟨gb, 0, none⟩) ns dco ns (List.replicate ns 0) u4 (by omega) po pz).mono ?_
            rintro e ux ⟨rfl, dd, rfl⟩
            have z5 := hSof.out _ _ z4 (below_drewN (Below.refl u4.heap.size u4) dd)
            clear po pz
            obtain ⟨u5, hu5⟩ : ∃ x, u4.drewN dd = x := ⟨_, rfl⟩
            rw [hu5] at z5 ⊢
            clear hu5
            go_wp2_with fail
            refine hK.out _ _ z5 (fun hHeld => ?_)
            clear hK K
            (try simp only [Act.put, List.setIfInBounds_toArray, List.set_cons_zero, List.set_cons_succ])
            refine wpAnyH_take (i := 26) (v := .bool true) rfl (by kernel_rfl) (by kernel_rfl) (by kernel_rfl) (fun _ _ _ h => h) (Or.inl ⟨by kernel_rfl, fun W hSw => ?_⟩) (by assumption) ?_
            · (try dsimp only at hSw)
              go_simp
            (try simp only [Act.put, List.setIfInBounds_toArray, List.set_cons_zero, List.set_cons_succ])
            refine wpAnyH_take (i := 27) (v := .bool true) rfl (by kernel_rfl) (by kernel_rfl) (by kernel_rfl) (fun _ _ _ h => h) (Or.inl ⟨by kernel_rfl, fun W hSw => ?_⟩) (by assumption) ?_
            · (try dsimp only at hSw)
              go_simp
            (try simp only [Act.put, List.setIfInBounds_toArray, List.set_cons_zero, List.set_cons_succ])
            refine wpAnyH_take (i := 28) (v := .agg #[.string (str codes), .slice A1s n1s c1s, .int .i64 ticks, .int .i64 lows, .int .i64 highs, .int .i64 wides, .int .i64 rules, .int .i64 tops, .int .i64 leasts, .int .i64 parts, .slice A2s n2s c2s]) rfl (by kernel_rfl) (by kernel_rfl) (by kernel_rfl) (fun _ _ _ h => h) (Or.inl ⟨by kernel_rfl, fun W hSw => ?_⟩) (by assumption) ?_
            · (try dsimp only at hSw)
              go_simp
            (try simp only [Act.put, List.setIfInBounds_toArray, List.set_cons_zero, List.set_cons_succ])
            refine wpAnyH_take (i := 29) (v := .slice Ao ns co) rfl (by kernel_rfl) (by kernel_rfl) (by kernel_rfl) (fun _ _ _ h => h) (Or.inl ⟨by kernel_rfl, fun W hSw => ?_⟩) (by assumption) ?_
            · (try dsimp only at hSw)
              go_simp
            (try simp only [Act.put, List.setIfInBounds_toArray, List.set_cons_zero, List.set_cons_succ])
            refine wpAnyH_take (i := 30) (v := .int .i64 (m : Int)) rfl (by kernel_rfl) (by kernel_rfl) (by kernel_rfl) (fun _ _ _ h => h) (Or.inl ⟨by kernel_rfl, fun W hSw => ?_⟩) (by assumption) ?_
            · (try dsimp only at hSw)
              go_simp
            (try simp only [Act.put, List.setIfInBounds_toArray, List.set_cons_zero, List.set_cons_succ])
            refine wpAnyH_take (i := 31) (v := .int .i64 ((m : Int) + 1)) rfl (by kernel_rfl) (by kernel_rfl) (by kernel_rfl) (fun _ _ _ h => h) (Or.inl ⟨by kernel_rfl, fun W hSw => ?_⟩) (by assumption) ?_
            · (try dsimp only at hSw)
              go_simp
            (try simp only [Act.put, List.setIfInBounds_toArray, List.set_cons_zero, List.set_cons_succ])
            refine wpAnyH_ready (rs := [32]) (by kernel_rfl) (by simp) ?_
            refine AllReadyH.cons rfl (fun K hK => ?_) AllReadyH.nil
            go_simp
            refine (CA.out u5 ((m : Int) + 1) [] (by omega) (by omega) aBad.out (hVz.out.below z5.2.2.2.2.2.2.2.2.2.2.2)).mono ?_
            rintro e u6 ⟨v, rfl, rr, bb⟩
            obtain ⟨Pb, dcb, rfl, pb, -, -, -, -⟩ := rr.slice (fun y hy => by cases hy)
            rw [List.length_nil] at pb ⊢
            have z6 := hSof.out _ _ z5 bb
            replace pb := Lib.hid pb
            clear rr bb
            go_wp2_with fail
            refine hK.out _ _ z6 (fun hHeld => ?_)
            clear hK K
            (try simp only [Act.put, List.setIfInBounds_toArray, List.set_cons_zero, List.set_cons_succ])
            refine wpAnyH_take (i := 33) (v := .int .i64 0) rfl (by kernel_rfl) (by kernel_rfl) (by kernel_rfl) (fun _ _ _ h => h) (Or.inl ⟨by kernel_rfl, fun W hSw => ?_⟩) (by assumption) ?_
            · (try dsimp only at hSw)
              go_simp
            (try simp only [Act.put, List.setIfInBounds_toArray, List.set_cons_zero, List.set_cons_succ])
            refine wpAnyH_take (i := 34) (v := .bool true) rfl (by kernel_rfl) (by kernel_rfl) (by kernel_rfl) (fun _ _ _ h => h) (Or.inl ⟨by kernel_rfl, fun W hSw => ?_⟩) (by assumption) ?_
            · (try dsimp only at hSw)
              go_simp
            (try simp only [Act.put, List.setIfInBounds_toArray, List.set_cons_zero, List.set_cons_succ])
            refine wpAnyH_take (i := 35) (v := .bool true) rfl (by kernel_rfl) (by kernel_rfl) (by kernel_rfl) (fun _ _ _ h => h) (Or.inl ⟨by kernel_rfl, fun W hSw => ?_⟩) (by assumption) ?_
            · (try dsimp only at hSw)
              go_simp
            (try simp only [Act.put, List.setIfInBounds_toArray, List.set_cons_zero, List.set_cons_succ])
            refine wpAnyH_take (i := 36) (v := .bool true) rfl (by kernel_rfl) (by kernel_rfl) (by kernel_rfl) (fun _ _ _ h => h) (Or.inl ⟨by kernel_rfl, fun W hSw => ?_⟩) (by assumption) ?_
            · (try dsimp only at hSw)
              go_simp
            (try simp only [Act.put, List.setIfInBounds_toArray, List.set_cons_zero, List.set_cons_succ])
            refine wpAnyH_ready (rs := [37]) (by kernel_rfl) (by simp) ?_
            refine AllReadyH.cons rfl (fun K hK => ?_) AllReadyH.nil
            go_simp
            refine (Known_any _).mono ?_
            rintro e u7 ⟨rfl, bb⟩
            have z7 := hSof.out _ _ z6 bb
            clear bb
            go_wp2_with fail
            refine hK.out _ _ z7 (fun hHeld => ?_)
            clear hK K
            (try simp only [Act.put, List.setIfInBounds_toArray, List.set_cons_zero, List.set_cons_succ])
            refine wpAnyH_take (i := 38) (v := .bool true) rfl (by kernel_rfl) (by kernel_rfl) (by kernel_rfl) (fun _ _ _ h => h) (Or.inl ⟨by kernel_rfl, fun W hSw => ?_⟩) (by assumption) ?_
            · (try dsimp only at hSw)
              go_simp
            (try simp only [Act.put, List.setIfInBounds_toArray, List.set_cons_zero, List.set_cons_succ])
            refine wpAnyH_take (i := 39) (v := .bool true) rfl (by kernel_rfl) (by kernel_rfl) (by kernel_rfl) (fun _ _ _ h => h) (Or.inl ⟨by kernel_rfl, fun W hSw => ?_⟩) (by assumption) ?_
            · (try dsimp only at hSw)
              go_simp
            (try simp only [Act.put, List.setIfInBounds_toArray, List.set_cons_zero, List.set_cons_succ])
            refine wpAnyH_done (by kernel_rfl) ?_ _
            (try simp only [List.getElem_toArray, List.getElem_cons_succ, List.getElem_cons_zero, Act.put, List.setIfInBounds_toArray, List.set_cons_zero, List.set_cons_succ])
            have BB := Lib.hid (below_up hBz.out z7.2.2.2.2.2.2.2.2.2.2.2)
            clear z7 hHeld
            go_wp2_with fail
            go_ret
            exact ⟨rfl, by first | exact BB.out | (rw [← epb.out]; exact BB.out)⟩
          · go_simp
            have z3 := hSof.out _ _ z2 ((Below.refl u2.heap.size u2).alloc (Nat.le_refl _) (.cells (madeCells #[.int .i64 0] ns) 2))
            have pz := holds_made u2 ns
            obtain ⟨u3, eu⟩ : ∃ x, u2.alloc (.cells (madeCells #[.int .i64 0] ns) 2) = x := ⟨_, rfl⟩
            obtain ⟨gb, eg⟩ : ∃ x, u2.heap.size = x := ⟨_, rfl⟩
            rw [eu] at z3 pz  ⊢
            rw [eg] at pz ⊢
            clear eu eg
            replace pz := Lib.hid pz
            refine hK.out _ _ z3 (fun hHeld => ?_)
            clear hK K
            (try simp only [Act.put, List.setIfInBounds_toArray, List.set_cons_zero, List.set_cons_succ])
            refine wpAnyH_ready (rs := [21]) (by kernel_rfl) (by simp) ?_
            refine AllReadyH.cons rfl (fun K hK => ?_) AllReadyH.nil
            go_simp
            refine (CA.out u3 0 (List.replicate ns 0) (by omega) (by omega) aNone.out (hVz.out.below z3.2.2.2.2.2.2.2.2.2.2.2)).mono ?_
            rintro e u4 ⟨v, rfl, rr, bb⟩
            obtain ⟨Po, dco, rfl, po, -, -, -, -⟩ := rr.slice (rep_I64 ns)
            rw [List.length_replicate] at po ⊢
            have z4 := hSof.out _ _ z3 bb
            replace pz := Lib.hid (pz.out.below bb)
            replace po := Lib.hid po
            clear rr bb
            go_wp2_with fail
            refine hK.out _ _ z4 (fun hHeld => ?_)
            clear hK K
            (try simp only [Act.put, List.setIfInBounds_toArray, List.set_cons_zero, List.set_cons_succ])
            refine wpAnyH_ready (rs := [25]) (by kernel_rfl) (by simp) ?_
            refine AllReadyH.cons rfl (fun K hK => ?_) AllReadyH.nil
            go_simp
            refine (Same_yes Po (some ⟨gb, 0, none⟩) ns dco ns (List.replicate ns 0) u4 (by omega) po pz).mono ?_
            rintro e ux ⟨rfl, dd, rfl⟩
            have z5 := hSof.out _ _ z4 (below_drewN (Below.refl u4.heap.size u4) dd)
            clear po pz
            obtain ⟨u5, hu5⟩ : ∃ x, u4.drewN dd = x := ⟨_, rfl⟩
            rw [hu5] at z5 ⊢
            clear hu5
            go_wp2_with fail
            refine hK.out _ _ z5 (fun hHeld => ?_)
            clear hK K
            (try simp only [Act.put, List.setIfInBounds_toArray, List.set_cons_zero, List.set_cons_succ])
            refine wpAnyH_take (i := 26) (v := .bool true) rfl (by kernel_rfl) (by kernel_rfl) (by kernel_rfl) (fun _ _ _ h => h) (Or.inl ⟨by kernel_rfl, fun W hSw => ?_⟩) (by assumption) ?_
            · (try dsimp only at hSw)
              go_simp
            (try simp only [Act.put, List.setIfInBounds_toArray, List.set_cons_zero, List.set_cons_succ])
            refine wpAnyH_take (i := 27) (v := .bool true) rfl (by kernel_rfl) (by kernel_rfl) (by kernel_rfl) (fun _ _ _ h => h) (Or.inl ⟨by kernel_rfl, fun W hSw => ?_⟩) (by assumption) ?_
            · (try dsimp only at hSw)
              go_simp
            (try simp only [Act.put, List.setIfInBounds_toArray, List.set_cons_zero, List.set_cons_succ])
            refine wpAnyH_take (i := 28) (v := .agg #[.string (str codes), .slice A1s n1s c1s, .int .i64 ticks, .int .i64 lows, .int .i64 highs, .int .i64 wides, .int .i64 rules, .int .i64 tops, .int .i64 leasts, .int .i64 parts, .slice A2s n2s c2s]) rfl (by kernel_rfl) (by kernel_rfl) (by kernel_rfl) (fun _ _ _ h => h) (Or.inl ⟨by kernel_rfl, fun W hSw => ?_⟩) (by assumption) ?_
            · (try dsimp only at hSw)
              go_simp
            (try simp only [Act.put, List.setIfInBounds_toArray, List.set_cons_zero, List.set_cons_succ])
            refine wpAnyH_take (i := 29) (v := .slice Ao ns co) rfl (by kernel_rfl) (by kernel_rfl) (by kernel_rfl) (fun _ _ _ h => h) (Or.inl ⟨by kernel_rfl, fun W hSw => ?_⟩) (by assumption) ?_
            · (try dsimp only at hSw)
              go_simp
            (try simp only [Act.put, List.setIfInBounds_toArray, List.set_cons_zero, List.set_cons_succ])
            refine wpAnyH_take (i := 30) (v := .int .i64 (m : Int)) rfl (by kernel_rfl) (by kernel_rfl) (by kernel_rfl) (fun _ _ _ h => h) (Or.inl ⟨by kernel_rfl, fun W hSw => ?_⟩) (by assumption) ?_
            · (try dsimp only at hSw)
              go_simp
            (try simp only [Act.put, List.setIfInBounds_toArray, List.set_cons_zero, List.set_cons_succ])
            refine wpAnyH_take (i := 31) (v := .int .i64 ((m : Int) + 1)) rfl (by kernel_rfl) (by kernel_rfl) (by kernel_rfl) (fun _ _ _ h => h) (Or.inl ⟨by kernel_rfl, fun W hSw => ?_⟩) (by assumption) ?_
            · (try dsimp only at hSw)
              go_simp
            (try simp only [Act.put, List.setIfInBounds_toArray, List.set_cons_zero, List.set_cons_succ])
            refine wpAnyH_ready (rs := [32]) (by kernel_rfl) (by simp) ?_
            refine AllReadyH.cons rfl (fun K hK => ?_) AllReadyH.nil
            go_simp
            refine (CA.out u5 ((m : Int) + 1) [] (by omega) (by omega) aBad.out (hVz.out.below z5.2.2.2.2.2.2.2.2.2.2.2)).mono ?_
            rintro e u6 ⟨v, rfl, rr, bb⟩
            obtain ⟨Pb, dcb, rfl, pb, -, -, -, -⟩ := rr.slice (fun y hy => by cases hy)
            rw [List.length_nil] at pb ⊢
            have z6 := hSof.out _ _ z5 bb
            replace pb := Lib.hid pb
            clear rr bb
            go_wp2_with fail
            refine hK.out _ _ z6 (fun hHeld => ?_)
            clear hK K
            (try simp only [Act.put, List.setIfInBounds_toArray, List.set_cons_zero, List.set_cons_succ])
            refine wpAnyH_take (i := 33) (v := .int .i64 0) rfl (by kernel_rfl) (by kernel_rfl) (by kernel_rfl) (fun _ _ _ h => h) (Or.inl ⟨by kernel_rfl, fun W hSw => ?_⟩) (by assumption) ?_
            · (try dsimp only at hSw)
              go_simp
            (try simp only [Act.put, List.setIfInBounds_toArray, List.set_cons_zero, List.set_cons_succ])
            refine wpAnyH_take (i := 34) (v := .bool true) rfl (by kernel_rfl) (by kernel_rfl) (by kernel_rfl) (fun _ _ _ h => h) (Or.inl ⟨by kernel_rfl, fun W hSw => ?_⟩) (by assumption) ?_
            · (try dsimp only at hSw)
              go_simp
            (try simp only [Act.put, List.setIfInBounds_toArray, List.set_cons_zero, List.set_cons_succ])
            refine wpAnyH_take (i := 35) (v := .bool true) rfl (by kernel_rfl) (by kernel_rfl) (by kernel_rfl) (fun _ _ _ h => h) (Or.inl ⟨by kernel_rfl, fun W hSw => ?_⟩) (by assumption) ?_
            · (try dsimp only at hSw)
              go_simp
            (try simp only [Act.put, List.setIfInBounds_toArray, List.set_cons_zero, List.set_cons_succ])
            refine wpAnyH_take (i := 36) (v := .bool true) rfl (by kernel_rfl) (by kernel_rfl) (by kernel_rfl) (fun _ _ _ h => h) (Or.inl ⟨by kernel_rfl, fun W hSw => ?_⟩) (by assumption) ?_
            · (try dsimp only at hSw)
              go_simp
            (try simp only [Act.put, List.setIfInBounds_toArray, List.set_cons_zero, List.set_cons_succ])
            refine wpAnyH_ready (rs := [37]) (by kernel_rfl) (by simp) ?_
            refine AllReadyH.cons rfl (fun K hK => ?_) AllReadyH.nil
            go_simp
            refine (Known_any _).mono ?_
            rintro e u7 ⟨rfl, bb⟩
            have z7 := hSof.out _ _ z6 bb
            clear bb
            go_wp2_with fail
            refine hK.out _ _ z7 (fun hHeld => ?_)
            clear hK K
            (try simp only [Act.put, List.setIfInBounds_toArray, List.set_cons_zero, List.set_cons_succ])
            refine wpAnyH_take (i := 38) (v := .bool true) rfl (by kernel_rfl) (by kernel_rfl) (by kernel_rfl) (fun _ _ _ h => h) (Or.inl ⟨by kernel_rfl, fun W hSw => ?_⟩) (by assumption) ?_
            · (try dsimp only at hSw)
              go_simp
            (try simp only [Act.put, List.setIfInBounds_toArray, List.set_cons_zero, List.set_cons_succ])
            refine wpAnyH_take (i := 39) (v := .bool true) rfl (by kernel_rfl) (by kernel_rfl) (by kernel_rfl) (fun _ _ _ h => h) (Or.inl ⟨by kernel_rfl, fun W hSw => ?_⟩) (by assumption) ?_
            · (try dsimp only at hSw)
              go_simp
            (try simp only [Act.put, List.setIfInBounds_toArray, List.set_cons_zero, List.set_cons_succ])
            refine wpAnyH_done (by kernel_rfl) ?_ _
            (try simp only [List.getElem_toArray, List.getElem_cons_succ, List.getElem_cons_zero, Act.put, List.setIfInBounds_toArray, List.set_cons_zero, List.set_cons_succ])
            have BB := Lib.hid (below_up hBz.out z7.2.2.2.2.2.2.2.2.2.2.2)
            clear z7 hHeld
            go_wp2_with fail
            go_ret
            exact ⟨rfl, by first | exact BB.out | (rw [← epb.out]; exact BB.out)⟩
end Go.Proofs.Ytabogoonbapjiaa
