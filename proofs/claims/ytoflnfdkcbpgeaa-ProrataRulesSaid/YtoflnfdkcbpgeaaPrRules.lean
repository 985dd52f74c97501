/-
  The law ProrataRules: its walk.
-/
import Derived.Test.YtoflnfdkcbpgeaaPrRulesP
namespace Go.Proofs.Ytoflnfdkcbpgeaa
open Go.RowKit
set_option linter.unusedVariables false
set_option linter.unusedSimpArgs false

set_option maxRecDepth 100000 in
set_option maxHeartbeats 3200000 in
theorem PRules_walk (A : Option Addr) (n cap : Nat) (xs : List Int) (top most small low : Int) (w : World) (hn : n ≤ 9223372036854775807) (hcap : n ≤ cap) (t1 : -9223372036854775808 ≤ top) (t2 : top ≤ 9223372036854775807) (o1 : -9223372036854775808 ≤ most) (o2 : most ≤ 9223372036854775807) (s1 : -9223372036854775808 ≤ small) (s2 : small ≤ 9223372036854775807) (u1 : -9223372036854775808 ≤ low) (u2 : low ≤ 9223372036854775807) (h : Hid (Holds w A n xs)) :
    Calls Try.prog 5 #[.slice A n cap, .int .i64 top, .int .i64 most, .int .i64 small, .int .i64 low] w fun e w' => e = .returned (.bool true) ∧ Below w.heap.size w w' := by
  obtain ⟨M, k, hM, hk, M1, k1, l40, hR⟩ := drawn_part xs small
  have okS := size_ok xs
  have HS0 := Sizes_any A n cap xs w hn h
  obtain ⟨S, hS⟩ : ∃ S, sizeL xs = S := ⟨_, rfl⟩
  rw [hS] at hM l40 okS HS0 hR
  replace hS := Lib.hid hS
  obtain ⟨ns, hns⟩ : ∃ ns, S.length = ns := ⟨_, rfl⟩
  rw [hns] at l40
  have hj1 := withinN_le low 9
  obtain ⟨j, hj⟩ : ∃ j, withinN low 9 = j := ⟨_, rfl⟩
  rw [hj] at hj1
  replace hj := Lib.hid hj
  obtain ⟨lX, sX, fX, gX, qX⟩ := rules_plain (least := 1 + (j : Int)) hR (by omega)
  have iX := small_of (plain_mem S (1 + (j : Int)) (k : Int))
  have mX := plain_mem S (1 + (j : Int)) (k : Int)
  have big : ∀ i, i < ns → 1 ≤ M := fun i hi => by
    have := sum_ge (fun x hx => by have := okS x hx; omega) (show i < S.length by omega)
    have := okS _ (getD_mem (show i < S.length by omega))
    omega
  have hm1 := withinN_le most 1000000
  obtain ⟨m, hm⟩ : ∃ j, withinN most 1000000 = j := ⟨_, rfl⟩
  rw [hm] at hm1
  replace hm := Lib.hid hm
  have rT := fun t ht => rules_top (t := t) (most := (m : Int)) (least := 1 + (j : Int)) hR (by omega) (by omega) ht
  replace rT := Lib.hid rT
  have iS : ∀ x ∈ S, I64 x := fun x hx => by have := okS x hx; exact ⟨by omega, by omega⟩
  have okS0 : Hid (∀ x ∈ S, 0 ≤ x ∧ x ≤ 1000000) := Lib.hid (fun x hx => by have := okS x hx; omega)
  rw [hM, hns] at qX gX
  rw [hns] at lX fX
  obtain ⟨X, hX⟩ : ∃ X, plainL S (1 + (j : Int)) (k : Int) = X := ⟨_, rfl⟩
  simp only [hX] at lX sX fX gX iX mX
  replace okS := Lib.hid okS
  replace iS := Lib.hid iS
  replace iX := Lib.hid iX
  replace mX := Lib.hid mX
  replace fX := Lib.hid fX
  replace gX := Lib.hid gX
  replace qX := Lib.hid qX
  replace hX := Lib.hid hX
  replace big := Lib.hid big
  clear hR
  have k40 : k ≤ 40000000 := by omega
  have B := Lib.hid (Below.refl w.heap.size w)
  clear hcap
  go_enter Try.func5, Try.ntmps5
  have HS := HS0
  clear HS0 h
  replace HS := Lib.hid HS
  go_wp2_with fail
  refine HS.out.mono ?_
  rintro e w1 ⟨v, rfl, rr, bb⟩
  obtain ⟨A1, c1, rfl, h1, zA1, lA1, mA1, atA1⟩ := rr.slice iS.out
  rw [hns] at h1 lA1 ⊢
  replace h1 := Lib.hid h1
  replace B := Lib.hid (below_up B.out bb)
  clear HS rr bb atA1 zA1
  have HS := LSum_any A1 ns c1 S w1 (by omega) h1 okS0
  rw [hM] at HS
  replace HS := Lib.hid HS
  go_wp2_with fail
  refine HS.out.mono ?_
  rintro e w1 ⟨rfl, rfl⟩
  clear HS
  have HS := Within_any small M w1 (by omega) s1 s2
  rw [hk] at HS
  replace HS := Lib.hid HS
  go_wp2_with fail
  refine HS.out.mono ?_
  rintro e w1 ⟨rfl, rfl⟩
  clear HS
  have HS := Within_any low 9 w1 (by omega) u1 u2
  rw [hj.out] at HS
  replace HS := Lib.hid HS
  go_wp2_with fail
  refine HS.out.mono ?_
  rintro e w1 ⟨rfl, rfl⟩
  clear HS
  have HS := PPlain_any A1 ns c1 S (1 + (j : Int)) (k : Int) w1 (by omega) (by omega) (by omega) (by omega) (by omega) h1
  rw [hX.out] at HS
  replace HS := Lib.hid HS
  go_wp2_with fail
  refine HS.out.mono ?_
  rintro e w2 ⟨v, rfl, rr, bb⟩
  obtain ⟨A2, c2, rfl, h2, zA2, lA2, mA2, atA2⟩ := rr.slice iX.out
  rw [lX] at h2 lA2 ⊢
  replace h2 := Lib.hid h2
  replace h1 := Lib.hid (h1.out.below bb)
  replace B := Lib.hid (below_up B.out bb)
  clear HS rr bb atA2 zA2
  have dl : ((ns : Int) != (ns : Int)) = false := by simp
  have dk : ((k : Int) != (k : Int)) = false := by simp
  have HS := LSum_any A2 ns c2 X w2 (by omega) h2 mX
  rw [sX] at HS
  replace HS := Lib.hid HS
  go_wp2_with fail
  refine HS.out.mono ?_
  rintro e w2 ⟨rfl, rfl⟩
  clear HS
  go_wp2_with fail
  clear dl dk
  go_loopw [16] (fun i wr => ∃ t : Nat, i = .int .i64 t ∧ t ≤ ns ∧ ∃ d, wr = w2.drewN d) (fun i _ => (ns - intOf i).toNat)
  case atStart => exact ⟨0, rfl, by omega, 0, rfl⟩
  case round =>
    obtain ⟨t, rfl, ht, d, rfl⟩ := hrel
    by_cases hlt : t < ns
    · have d1 : decide ((t : Int) < (ns : Int)) = true := decide_eq_true (by omega)
      have d3 : (t : Int) < (ns : Int) := by omega
      obtain ⟨b1, o1', rfl, q1⟩ := h1.out.2.2 (by omega)
      obtain ⟨b2, o2', rfl, q2⟩ := h2.out.2.2 (by omega)
      have c1' := q1 t hlt
      have c2' := q2 t hlt
      have x0 := okS.out _ (getD_mem (show t < S.length by omega))
      have hM1 := big.out t hlt
      obtain ⟨v0, v1⟩ := fX.out t hlt
      have g := gX.out t hlt
      obtain ⟨q0, q3⟩ := qX.out t hlt
      clear q1 q2
      generalize S.getD t 0 = x at *
      generalize X.getD t 0 = v at *
      have HSh := Share_any x (k : Int) (M : Int) (w2.drewN d) (by omega) (by omega) (by omega) (by omega) (by omega) (by omega)
      obtain ⟨s, hs⟩ : ∃ s, x * (k : Int) / (M : Int) = s := ⟨_, rfl⟩
      rw [hs] at HSh g q0 q3
      rw [pick_yes (fitB_yes (x := s) (by omega) (by omega)), fitB_yes (x := s) (by omega) (by omega)] at HSh
      replace HSh := Lib.hid HSh
      replace hs := Lib.hid hs
      have d4 : decide (v < 0) = false := decide_eq_false (by omega)
      have d5 : decide (x < v) = false := decide_eq_false (by omega)
      have d2 : decide (t < ns) = true := decide_eq_true hlt
      by_cases hle : 1 + (j : Int) ≤ s
      · have d6 : decide (1 + (j : Int) ≤ s) = true := decide_eq_true hle
        have g2 := g hle
        have d7 : decide (v < s) = false := decide_eq_false (by omega)
        clear g
        go_wp2_with fail
        refine HSh.out.mono ?_
        rintro e wx ⟨rfl, d', rfl⟩
        have ew : (w2.drewN d).drewN d' = w2.drewN (d + d') := by simp
        rw [ew]
        clear ew HSh
        go_wp2_with fail
        go_quiet (fail)
        go_wp2_with fail
        go_roundw
        case rel => exact ⟨t + 1, by go_num, by omega, _, rfl⟩
        case measure => simp [intOf]; omega
      · have d6 : decide (1 + (j : Int) ≤ s) = false := decide_eq_false hle
        clear g
        go_wp2_with fail
        refine HSh.out.mono ?_
        rintro e wx ⟨rfl, d', rfl⟩
        have ew : (w2.drewN d).drewN d' = w2.drewN (d + d') := by simp
        rw [ew]
        clear ew HSh
        go_wp2_with fail
        go_quiet (fail)
        go_wp2_with fail
        go_roundw
        case rel => exact ⟨t + 1, by go_num, by omega, _, rfl⟩
        case measure => simp [intOf]; omega
    · have d1 : decide ((t : Int) < (ns : Int)) = false := decide_eq_false (by omega)
      have d2 : decide (t < ns) = false := decide_eq_false hlt
      replace h1 := Lib.hid (h1.out.drewN d)
      replace B := Lib.hid (below_drewN B.out d)
      obtain ⟨w3, hw3⟩ : ∃ wn, w2.drewN d = wn := ⟨_, rfl⟩
      rw [hw3] at h1 B ⊢
      clear hw3 h2 fX gX qX mX iX big ht hlt
      by_cases h0 : ns = 0
      · have dz : ((ns : Int) == 0) = true := by simp [h0]
        have dz2 : (ns == 0) = true := by simp [h0]
        go_wp2_with fail
        refine (Known_any _).mono ?_
        rintro e wz ⟨rfl, bz⟩
        replace B := Lib.hid (below_up B.out bz)
        clear bz
        go_wp2_with fail
        go_ret
        exact ⟨rfl, B.out⟩
      have dz : ((ns : Int) == 0) = false := by simp [h0]
      have dz2 : (ns == 0) = false := by simp [h0]
      obtain ⟨nl, hnl⟩ : ∃ nl : Nat, (ns : Int) - 1 = (nl : Int) := ⟨ns - 1, by omega⟩
      have ht1 := withinN_le top nl
      obtain ⟨p, hp⟩ : ∃ p, withinN top nl = p := ⟨_, rfl⟩
      rw [hp] at ht1
      replace hp := Lib.hid hp
      have pl : p < ns := by omega
      obtain ⟨lY, sY, fY, gY⟩ := rT.out p (by rw [hns]; exact pl)
      have iY := small_of (top_mem S (p : Int) (m : Int) (1 + (j : Int)) (k : Int))
      have mY := top_mem S (p : Int) (m : Int) (1 + (j : Int)) (k : Int)
      rw [hns] at lY fY
      obtain ⟨Y, hY⟩ : ∃ Y, topL S (p : Int) (m : Int) (1 + (j : Int)) (k : Int) = Y := ⟨_, rfl⟩
      simp only [hY] at lY sY fY gY iY mY
      obtain ⟨x, hx⟩ : ∃ x, S.getD p 0 = x := ⟨_, rfl⟩
      obtain ⟨y, hy⟩ : ∃ y, Y.getD p 0 = y := ⟨_, rfl⟩
      rw [hx, hy] at gY
      have xb := okS.out _ (getD_mem (show p < S.length by omega))
      rw [hx] at xb
      replace iY := Lib.hid iY
      replace mY := Lib.hid mY
      replace fY := Lib.hid fY
      replace hY := Lib.hid hY
      replace hx := Lib.hid hx
      replace hy := Lib.hid hy
      clear rT h0
      have HS := Within_any top nl w3 (by omega) t1 t2
      rw [hp.out] at HS
      replace HS := Lib.hid HS
      go_wp2_with fail
      refine HS.out.mono ?_
      rintro e w3 ⟨rfl, rfl⟩
      clear HS
      have HS := Within_any most 1000000 w3 (by omega) o1 o2
      rw [hm.out] at HS
      replace HS := Lib.hid HS
      go_wp2_with fail
      refine HS.out.mono ?_
      rintro e w3 ⟨rfl, rfl⟩
      clear HS
      have HS := PShare_any A1 ns c1 S (p : Int) (m : Int) (1 + (j : Int)) (k : Int) w3 (by omega) (by omega) (by omega) (by omega) (by omega) (by omega) (by omega) (by omega) (by omega) h1
      rw [hY.out] at HS
      replace HS := Lib.hid HS
      go_wp2_with fail
      refine HS.out.mono ?_
      rintro e w4 ⟨v, rfl, rr, bb⟩
      obtain ⟨A4, c4, rfl, h4, zA4, lA4, mA4, atA4⟩ := rr.slice iY.out
      rw [lY] at h4 lA4 ⊢
      replace h4 := Lib.hid h4
      replace h1 := Lib.hid (h1.out.below bb)
      replace B := Lib.hid (below_up B.out bb)
      clear HS rr bb atA4 zA4
      have dl : ((ns : Int) != (ns : Int)) = false := by simp
      have dk : ((k : Int) != (k : Int)) = false := by simp
      have HS := LSum_any A4 ns c4 Y w4 (by omega) h4 mY
      rw [sY] at HS
      replace HS := Lib.hid HS
      go_wp2_with fail
      refine HS.out.mono ?_
      rintro e w4 ⟨rfl, rfl⟩
      clear HS
      have hcells : Hid (∃ b o, A1 = some ⟨b, o, none⟩ ∧ w4.cell? ⟨b, o + p, none⟩ = some (.int .i64 x)) := Lib.hid (by
        obtain ⟨b, o, e, hc⟩ := h1.out.2.2 (by omega)
        exact ⟨b, o, e, by rw [← hx.out]; exact hc p pl⟩)
      have dp : decide (p < ns) = true := decide_eq_true pl
      have dp2 : decide ((p : Int) < (ns : Int)) = true := decide_eq_true (by omega)
      have dp3 : (p : Int) < (ns : Int) := by omega
      rcases (show (m ≤ k ∧ (m : Int) ≤ x ∧ (m : Int) ≤ y) ∨ (m ≤ k ∧ x < (m : Int) ∧ x ≤ y) ∨ (k < m ∧ (k : Int) ≤ x ∧ (k : Int) ≤ y) ∨ (k < m ∧ x < (k : Int) ∧ x ≤ y) by omega) with ⟨ca, cb, cy⟩ | ⟨ca, cb, cy⟩ | ⟨ca, cb, cy⟩ | ⟨ca, cb, cy⟩
      · have e1 : decide ((k : Int) < (m : Int)) = false := decide_eq_false (by omega)
        have e1' : decide (k < m) = false := decide_eq_false (by omega)
        have e2 : decide (x < (m : Int)) = false := decide_eq_false (by omega)
        have e3 : decide ((m : Int) ≤ y) = true := decide_eq_true cy
        clear ca cb cy
        obtain ⟨b1, o1', rfl, c1x⟩ := hcells.out
        clear hcells gY
        go_wp2_with fail
        clear dl dk c1x
        go_loopw [23] (fun i wr => ∃ t : Nat, i = .int .i64 t ∧ t ≤ ns ∧ ∃ d, wr = w4.drewN d) (fun i _ => (ns - intOf i).toNat)
        case atStart => exact ⟨0, rfl, by omega, 0, rfl⟩
        case round =>
          obtain ⟨t, rfl, ht, d, rfl⟩ := hrel
          by_cases hlt : t < ns
          · have d1 : decide ((t : Int) < (ns : Int)) = true := decide_eq_true (by omega)
            have d3 : (t : Int) < (ns : Int) := by omega
            have d2 : decide (t < ns) = true := decide_eq_true hlt
            obtain ⟨b1', o1x, e1, q1⟩ := h1.out.2.2 (by omega)
            injection e1 with e1
            injection e1 with e1 e2
            subst e1; subst e2
            obtain ⟨b2, o2', rfl, q2⟩ := h4.out.2.2 (by omega)
            have c1' := q1 t hlt
            have c2' := q2 t hlt
            obtain ⟨v0, v1⟩ := fY.out t hlt
            have x0 := okS.out _ (getD_mem (show t < S.length by omega))
            clear q1 q2
            generalize S.getD t 0 = x' at *
            generalize Y.getD t 0 = v at *
            have d4 : decide (v < 0) = false := decide_eq_false (by omega)
            have d5 : decide (x' < v) = false := decide_eq_false (by omega)
            go_wp2_with fail
            go_quiet (fail)
            go_wp2_with fail
            go_roundw
            case rel => exact ⟨t + 1, by go_num, by omega, _, rfl⟩
            case measure => simp [intOf]; omega
          · have d1 : decide ((t : Int) < (ns : Int)) = false := decide_eq_false (by omega)
            have d2 : decide (t < ns) = false := decide_eq_false hlt
            replace h4 := Lib.hid (h4.out.drewN d)
            replace B := Lib.hid (below_drewN B.out d)
            obtain ⟨w5, hw5⟩ : ∃ wn, w4.drewN d = wn := ⟨_, rfl⟩
            rw [hw5] at h4 B ⊢
            clear hw5 h1
            obtain ⟨b2, o2', rfl, q2⟩ := h4.out.2.2 (by omega)
            have c2' := q2 p pl
            rw [hy.out] at c2'
            clear q2
            go_wp2_with fail
            refine (Known_any _).mono ?_
            rintro e wz ⟨rfl, bz⟩
            replace B := Lib.hid (below_up B.out bz)
            clear bz
            go_wp2_with fail
            go_ret
            exact ⟨rfl, B.out⟩
      · have e1 : decide ((k : Int) < (m : Int)) = false := decide_eq_false (by omega)
        have e1' : decide (k < m) = false := decide_eq_false (by omega)
        have e2 : decide (x < (m : Int)) = true := decide_eq_true (by omega)
        have e3 : decide (x ≤ y) = true := decide_eq_true cy
        clear ca cb cy
        obtain ⟨b1, o1', rfl, c1x⟩ := hcells.out
        clear hcells gY
        go_wp2_with fail
        clear dl dk c1x
        go_loopw [23] (fun i wr => ∃ t : Nat, i = .int .i64 t ∧ t ≤ ns ∧ ∃ d, wr = w4.drewN d) (fun i _ => (ns - intOf i).toNat)
        case atStart => exact ⟨0, rfl, by omega, 0, rfl⟩
        case round =>
          obtain ⟨t, rfl, ht, d, rfl⟩ := hrel
          by_cases hlt : t < ns
          · have d1 : decide ((t : Int) < (ns : Int)) = true := decide_eq_true (by omega)
            have d3 : (t : Int) < (ns : Int) := by omega
            have d2 : decide (t < ns) = true := decide_eq_true hlt
            obtain ⟨b1', o1x, e1, q1⟩ := h1.out.2.2 (by omega)
            injection e1 with e1
            injection e1 with e1 e2
            subst e1; subst e2
            obtain ⟨b2, o2', rfl, q2⟩ := h4.out.2.2 (by omega)
            have c1' := q1 t hlt
            have c2' := q2 t hlt
            obtain ⟨v0, v1⟩ := fY.out t hlt
            have x0 := okS.out _ (getD_mem (show t < S.length by omega))
            clear q1 q2
            generalize S.getD t 0 = x' at *
            generalize Y.getD t 0 = v at *
            have d4 : decide (v < 0) = false := decide_eq_false (by omega)
            have d5 : decide (x' < v) = false := decide_eq_false (by omega)
            go_wp2_with fail
            go_quiet (fail)
            go_wp2_with fail
            go_roundw
            case rel => exact ⟨t + 1, by go_num, by omega, _, rfl⟩
            case measure => simp [intOf]; omega
          · have d1 : decide ((t : Int) < (ns : Int)) = false := decide_eq_false (by omega)
            have d2 : decide (t < ns) = false := decide_eq_false hlt
            replace h4 := Lib.hid (h4.out.drewN d)
            replace B := Lib.hid (below_drewN B.out d)
            obtain ⟨w5, hw5⟩ : ∃ wn, w4.drewN d = wn := ⟨_, rfl⟩
            rw [hw5] at h4 B ⊢
            clear hw5 h1
            obtain ⟨b2, o2', rfl, q2⟩ := h4.out.2.2 (by omega)
            have c2' := q2 p pl
            rw [hy.out] at c2'
            clear q2
            go_wp2_with fail
            refine (Known_any _).mono ?_
            rintro e wz ⟨rfl, bz⟩
            replace B := Lib.hid (below_up B.out bz)
            clear bz
            go_wp2_with fail
            go_ret
            exact ⟨rfl, B.out⟩
      · have e1 : decide ((k : Int) < (m : Int)) = true := decide_eq_true (by omega)
        have e1' : decide (k < m) = true := decide_eq_true (by omega)
        have e2 : decide (x < (k : Int)) = false := decide_eq_false (by omega)
        have e3 : decide ((k : Int) ≤ y) = true := decide_eq_true cy
        clear ca cb cy
        obtain ⟨b1, o1', rfl, c1x⟩ := hcells.out
        clear hcells gY
        go_wp2_with fail
        clear dl dk c1x
        go_loopw [23] (fun i wr => ∃ t : Nat, i = .int .i64 t ∧ t ≤ ns ∧ ∃ d, wr = w4.drewN d) (fun i _ => (ns - intOf i).toNat)
        case atStart => exact ⟨0, rfl, by omega, 0, rfl⟩
        case round =>
          obtain ⟨t, rfl, ht, d, rfl⟩ := hrel
          by_cases hlt : t < ns
          · have d1 : decide ((t : Int) < (ns : Int)) = true := decide_eq_true (by omega)
            have d3 : (t : Int) < (ns : Int) := by omega
            have d2 : decide (t < ns) = true := decide_eq_true hlt
            obtain ⟨b1', o1x, e1, q1⟩ := h1.out.2.2 (by omega)
            injection e1 with e1
            injection e1 with e1 e2
            subst e1; subst e2
            obtain ⟨b2, o2', rfl, q2⟩ := h4.out.2.2 (by omega)
            have c1' := q1 t hlt
            have c2' := q2 t hlt
            obtain ⟨v0, v1⟩ := fY.out t hlt
            have x0 := okS.out _ (getD_mem (show t < S.length by omega))
            clear q1 q2
            generalize S.getD t 0 = x' at *
            generalize Y.getD t 0 = v at *
            have d4 : decide (v < 0) = false := decide_eq_false (by omega)
            have d5 : decide (x' < v) = false := decide_eq_false (by omega)
            go_wp2_with fail
            go_quiet (fail)
            go_wp2_with fail
            go_roundw
            case rel => exact ⟨t + 1, by go_num, by omega, _, rfl⟩
            case measure => simp [intOf]; omega
          · have d1 : decide ((t : Int) < (ns : Int)) = false := decide_eq_false (by omega)
            have d2 : decide (t < ns) = false := decide_eq_false hlt
            replace h4 := Lib.hid (h4.out.drewN d)
            replace B := Lib.hid (below_drewN B.out d)
            obtain ⟨w5, hw5⟩ : ∃ wn, w4.drewN d = wn := ⟨_, rfl⟩
            rw [hw5] at h4 B ⊢
            clear hw5 h1
            obtain ⟨b2, o2', rfl, q2⟩ := h4.out.2.2 (by omega)
            have c2' := q2 p pl
            rw [hy.out] at c2'
            clear q2
            go_wp2_with fail
            refine (Known_any _).mono ?_
            rintro e wz ⟨rfl, bz⟩
            replace B := Lib.hid (below_up B.out bz)
            clear bz
            go_wp2_with fail
            go_ret
            exact ⟨rfl, B.out⟩
      · have e1 : decide ((k : Int) < (m : Int)) = true := decide_eq_true (by omega)
        have e1' : decide (k < m) = true := decide_eq_true (by omega)
        have e2 : decide (x < (k : Int)) = true := decide_eq_true (by omega)
        have e3 : decide (x ≤ y) = true := decide_eq_true cy
        clear ca cb cy
        obtain ⟨b1, o1', rfl, c1x⟩ := hcells.out
        clear hcells gY
        go_wp2_with fail
        clear dl dk c1x
        go_loopw [23] (fun i wr => ∃ t : Nat, i = .int .i64 t ∧ t ≤ ns ∧ ∃ d, wr = w4.drewN d) (fun i _ => (ns - intOf i).toNat)
        case atStart => exact ⟨0, rfl, by omega, 0, rfl⟩
        case round =>
          obtain ⟨t, rfl, ht, d, rfl⟩ := hrel
          by_cases hlt : t < ns
          · have d1 : decide ((t : Int) < (ns : Int)) = true := decide_eq_true (by omega)
            have d3 : (t : Int) < (ns : Int) := by omega
            have d2 : decide (t < ns) = true := decide_eq_true hlt
            obtain ⟨b1', o1x, e1, q1⟩ := h1.out.2.2 (by omega)
            injection e1 with e1
            injection e1 with e1 e2
            subst e1; subst e2
            obtain ⟨b2, o2', rfl, q2⟩ := h4.out.2.2 (by omega)
            have c1' := q1 t hlt
            have c2' := q2 t hlt
            obtain ⟨v0, v1⟩ := fY.out t hlt
            have x0 := okS.out _ (getD_mem (show t < S.length by omega))
            clear q1 q2
            generalize S.getD t 0 = x' at *
            generalize Y.getD t 0 = v at *
            have d4 : decide (v < 0) = false := decide_eq_false (by omega)
            have d5 : decide (x' < v) = false := decide_eq_false (by omega)
            go_wp2_with fail
            go_quiet (fail)
            go_wp2_with fail
            go_roundw
            case rel => exact ⟨t + 1, by go_num, by omega, _, rfl⟩
            case measure => simp [intOf]; omega
          · have d1 : decide ((t : Int) < (ns : Int)) = false := decide_eq_false (by omega)
            have d2 : decide (t < ns) = false := decide_eq_false hlt
            replace h4 := Lib.hid (h4.out.drewN d)
            replace B := Lib.hid (below_drewN B.out d)
            obtain ⟨w5, hw5⟩ : ∃ wn, w4.drewN d = wn := ⟨_, rfl⟩
            rw [hw5] at h4 B ⊢
            clear hw5 h1
            obtain ⟨b2, o2', rfl, q2⟩ := h4.out.2.2 (by omega)
            have c2' := q2 p pl
            rw [hy.out] at c2'
            clear q2
            go_wp2_with fail
            refine (Known_any _).mono ?_
            rintro e wz ⟨rfl, bz⟩
            replace B := Lib.hid (below_up B.out bz)
            clear bz
            go_wp2_with fail
            go_ret
            exact ⟨rfl, B.out⟩
end Go.Proofs.Ytoflnfdkcbpgeaa
