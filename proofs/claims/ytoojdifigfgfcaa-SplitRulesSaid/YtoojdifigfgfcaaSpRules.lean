/-
  The law SplitRules: its walk.
-/
import Derived.Test.YtoojdifigfgfcaaSpKnown
import Derived.Deep.Cut
namespace Go.Proofs.Ytoojdifigfgfcaa
open Go.RowKit
set_option linter.unusedVariables false
set_option linter.unusedSimpArgs false

set_option maxRecDepth 100000 in
set_option maxHeartbeats 3200000 in
theorem SRules_walk (A : Option Addr) (n cap : Nat) (xs : List Int) (small low hund : Int) (w : World) (hn : n ≤ 9223372036854775807) (hcap : n ≤ cap) (s1 : -9223372036854775808 ≤ small) (s2 : small ≤ 9223372036854775807) (u1 : -9223372036854775808 ≤ low) (u2 : low ≤ 9223372036854775807) (v1 : -9223372036854775808 ≤ hund) (v2 : hund ≤ 9223372036854775807) (h : Hid (Holds w A n xs)) :
    Calls Try.prog 5 #[.slice A n cap, .int .i64 small, .int .i64 low, .int .i64 hund] w fun e w' => e = .returned (.bool true) ∧ Below w.heap.size w w' := by
  obtain ⟨m, k, hm, hk, m1, k1, l40, hR⟩ := drawn_part xs small
  have okS := size_ok xs
  have HS0 := Sizes_any A n cap xs w hn h
  obtain ⟨S, hS⟩ : ∃ S, sizeL xs = S := ⟨_, rfl⟩
  rw [hS] at hm l40 okS HS0 hR
  replace hS := Lib.hid hS
  obtain ⟨ns, hns⟩ : ∃ ns, S.length = ns := ⟨_, rfl⟩
  rw [hns] at l40
  have iS : ∀ x ∈ S, I64 x := fun x hx => by have := okS x hx; exact ⟨by omega, by omega⟩
  have okS0 : Hid (∀ x ∈ S, 0 ≤ x ∧ x ≤ 1000000) := Lib.hid (fun x hx => by have := okS x hx; omega)
  replace iS := Lib.hid iS
  clear okS
  have hj1 := withinN_le low 9
  obtain ⟨j, hj⟩ : ∃ j, withinN low 9 = j := ⟨_, rfl⟩
  rw [hj] at hj1
  replace hj := Lib.hid hj
  have hp1 := withinN_le hund 100
  obtain ⟨p, hp⟩ : ∃ p, withinN hund 100 = p := ⟨_, rfl⟩
  rw [hp] at hp1
  replace hp := Lib.hid hp
  obtain ⟨lX, sX, lF, fX⟩ := rules_split (least := 1 + (j : Int)) (part := (p : Int)) hR (by omega) (by omega) (by omega)
  have eAll := split_all (l := S) (q := (k : Int)) (least := 1 + (j : Int)) (by omega)
  have eNone := split_none (l := S) (q := (k : Int)) (least := 1 + (j : Int)) (by omega)
  rw [early_eq] at lF fX
  have kp1 : 0 ≤ (k : Int) * (p : Int) := Int.mul_nonneg (by omega) (by omega)
  have kp2 : (k : Int) * (p : Int) ≤ 40000000 * 100 := Int.mul_le_mul (by omega) (by omega) (by omega) (by omega)
  have mX := split_mem S (p : Int) (1 + (j : Int)) (k : Int)
  have iX := small_of mX
  obtain ⟨P, hP⟩ : ∃ P : Nat, (k : Int) * (p : Int) = (P : Int) := ⟨k * p, by rw [Int.natCast_mul]⟩
  rw [hP] at lF fX kp1 kp2
  obtain ⟨Ka, hKa⟩ : ∃ Ka, (P : Int) / 100 = Ka := ⟨_, rfl⟩
  have ka1 : 0 ≤ Ka := by omega
  have ka2 : Ka ≤ 40000000 := by omega
  rw [hKa] at lF fX
  have iF := share_I64 S Ka
  obtain ⟨X, hX⟩ : ∃ X, splitL S (p : Int) (1 + (j : Int)) (k : Int) = X := ⟨_, rfl⟩
  obtain ⟨F, hF⟩ : ∃ F, shareL S Ka = F := ⟨_, rfl⟩
  rw [hX] at lX sX fX mX iX
  rw [hF] at lF fX iF
  rw [hns] at lX lF fX
  have fY := share_len S (k : Int)
  have iY := share_I64 S (k : Int)
  obtain ⟨Y, hY⟩ : ∃ Y, shareL S (k : Int) = Y := ⟨_, rfl⟩
  rw [hY] at fY iY
  obtain ⟨ny, hny⟩ : ∃ ny, Y.length = ny := ⟨_, rfl⟩
  rw [hny] at fY
  replace hY := Lib.hid hY
  replace iY := Lib.hid iY
  have fV := plain_few S (1 + (j : Int)) (k : Int)
  have iV := small_of (plain_mem S (1 + (j : Int)) (k : Int))
  obtain ⟨V, hV⟩ : ∃ V, plainL S (1 + (j : Int)) (k : Int) = V := ⟨_, rfl⟩
  rw [hV] at fV iV
  obtain ⟨nv, hnv⟩ : ∃ nv, V.length = nv := ⟨_, rfl⟩
  rw [hnv] at fV
  replace hV := Lib.hid hV
  replace iV := Lib.hid iV
  rw [hY.out] at eAll
  rw [hV.out] at eNone
  replace mX := Lib.hid mX
  replace iX := Lib.hid iX
  replace iF := Lib.hid iF
  replace fX := Lib.hid fX
  replace hX := Lib.hid hX
  replace hF := Lib.hid hF
  replace hP := Lib.hid hP
  replace hKa := Lib.hid hKa
  replace eAll := Lib.hid eAll
  replace eNone := Lib.hid eNone
  clear hR
  have B := Lib.hid (Below.refl w.heap.size w)
  clear hcap
  go_enter Try.func5, Try.ntmps5
  have HS := HS0
  clear HS0 h
  replace HS := Lib.hid HS
  go_wp2_with fail
  refine HS.out.mono ?_
  rintro e w1 ⟨v, rfl, rr, bb⟩
  obtain ⟨A1, c1, rfl, h1, zA1, lA1, mA1, atA1⟩ := rr.slice iS.out
  rw [hns] at h1 lA1 ⊢
  replace h1 := Lib.hid h1
  replace B := Lib.hid (below_up B.out bb)
  clear HS rr bb atA1 zA1
  have HS := LSum_any A1 ns c1 S w1 (by omega) h1 okS0
  rw [hm] at HS
  replace HS := Lib.hid HS
  go_wp2_with fail
  refine HS.out.mono ?_
  rintro e w1 ⟨rfl, rfl⟩
  clear HS
  have HS := Within_any small m w1 (by omega) s1 s2
  rw [hk] at HS
  replace HS := Lib.hid HS
  go_wp2_with fail
  refine HS.out.mono ?_
  rintro e w1 ⟨rfl, rfl⟩
  clear HS
  have HS := Within_any low 9 w1 (by omega) u1 u2
  rw [hj.out] at HS
  replace HS := Lib.hid HS
  go_wp2_with fail
  refine HS.out.mono ?_
  rintro e w1 ⟨rfl, rfl⟩
  clear HS
  have HS := Within_any hund 100 w1 (by omega) v1 v2
  rw [hp.out] at HS
  replace HS := Lib.hid HS
  go_wp2_with fail
  refine HS.out.mono ?_
  rintro e w1 ⟨rfl, rfl⟩
  clear HS
  have HS := SShare_any A1 ns c1 S (p : Int) (1 + (j : Int)) (k : Int) w1 (by omega) lA1 (by omega) (by omega) (by omega) (by omega) (by omega) (by omega) h1
  rw [hX.out] at HS
  replace HS := Lib.hid HS
  go_wp2_with fail
  refine HS.out.mono ?_
  rintro e w2 ⟨v, rfl, rr, bb⟩
  obtain ⟨A2, c2, rfl, h2, zA2, lA2, mA2, atA2⟩ := rr.slice iX.out
  rw [lX] at h2 lA2 ⊢
  replace h2 := Lib.hid h2
  replace h1 := Lib.hid (h1.out.below bb)
  replace B := Lib.hid (below_up B.out bb)
  clear HS rr bb atA2 zA2
  have HS := FShare_any A1 ns c1 S Ka w2 (by omega) (by omega) (by omega) h1
  rw [hF.out] at HS
  replace HS := Lib.hid HS
  have fP := hP.out
  go_wp2_with fail
  clear fP
  rw [hKa.out]
  refine HS.out.mono ?_
  rintro e w3 ⟨v, rfl, rr, bb⟩
  obtain ⟨A3, c3, rfl, h3, zA3, lA3, mA3, atA3⟩ := rr.slice iF.out
  rw [lF] at h3 lA3 ⊢
  replace h3 := Lib.hid h3
  replace h1 := Lib.hid (h1.out.below bb)
  replace h2 := Lib.hid (h2.out.below bb)
  replace B := Lib.hid (below_up B.out bb)
  clear HS rr bb atA3 zA3
  have dl : ((ns : Int) != (ns : Int)) = false := by simp
  have dk : ((k : Int) != (k : Int)) = false := by simp
  have HS := LSum_any A2 ns c2 X w3 (by omega) h2 mX
  rw [sX] at HS
  replace HS := Lib.hid HS
  go_wp2_with fail
  refine HS.out.mono ?_
  rintro e w3 ⟨rfl, rfl⟩
  clear HS
  go_wp2_with fail
  clear dl dk
  go_loopw [15] (fun i wr => ∃ t : Nat, i = .int .i64 t ∧ t ≤ ns ∧ ∃ d, wr = w3.drewN d) (fun i _ => (ns - intOf i).toNat)
  case atStart => exact ⟨0, rfl, by omega, 0, rfl⟩
  case round =>
    obtain ⟨t, rfl, ht, d, rfl⟩ := hrel
    by_cases hlt : t < ns
    · have d1 : decide ((t : Int) < (ns : Int)) = true := decide_eq_true (by omega)
      have d2 : decide (t < ns) = true := decide_eq_true hlt
      have d3 : (t : Int) < (ns : Int) := by omega
      obtain ⟨b1, o1', rfl, q1⟩ := h1.out.2.2 (by omega)
      obtain ⟨b2, o2', rfl, q2⟩ := h2.out.2.2 (by omega)
      obtain ⟨b3, o3', rfl, q3⟩ := h3.out.2.2 (by omega)
      have c1' := q1 t hlt
      have c2' := q2 t hlt
      have c3' := q3 t hlt
      obtain ⟨v0, v1'⟩ := fX.out t hlt
      clear q1 q2 q3
      generalize S.getD t 0 = x at *
      generalize X.getD t 0 = v at *
      generalize F.getD t 0 = f at *
      have d4 : decide (v < f) = false := decide_eq_false (by omega)
      have d5 : decide (x < v) = false := decide_eq_false (by omega)
      go_wp2_with fail
      go_quiet (fail)
      go_wp2_with fail
      go_roundw
      case rel => exact ⟨t + 1, by go_num, by omega, _, rfl⟩
      case measure => simp [intOf]; omega
    · have d1 : decide ((t : Int) < (ns : Int)) = false := decide_eq_false (by omega)
      have d2 : decide (t < ns) = false := decide_eq_false hlt
      replace h1 := Lib.hid (h1.out.drewN d)
      replace B := Lib.hid (below_drewN B.out d)
      obtain ⟨w4, hw4⟩ : ∃ wn, w3.drewN d = wn := ⟨_, rfl⟩
      rw [hw4] at h1 B ⊢
      clear hw4 h2 h3 fX ht hlt mX iX iF
      have HS := SShare_any A1 ns c1 S 100 (1 + (j : Int)) (k : Int) w4 (by omega) lA1 (by omega) (by omega) (by omega) (by omega) (by omega) (by omega) h1
      rw [eAll.out] at HS
      replace HS := Lib.hid HS
      go_wp2_with fail
      refine HS.out.mono ?_
      rintro e w5 ⟨v, rfl, rr, bb⟩
      obtain ⟨A5, c5, rfl, h5, zA5, lA5, mA5, atA5⟩ := rr.slice iY.out
      rw [hny] at h5 lA5 ⊢
      replace h5 := Lib.hid h5
      replace h1 := Lib.hid (h1.out.below bb)
      replace B := Lib.hid (below_up B.out bb)
      clear HS rr bb atA5 zA5
      have HS := FShare_any A1 ns c1 S (k : Int) w5 (by omega) (by omega) (by omega) h1
      rw [hY.out] at HS
      replace HS := Lib.hid HS
      go_wp2_with fail
      refine HS.out.mono ?_
      rintro e w6 ⟨v, rfl, rr, bb⟩
      obtain ⟨A6, c6, rfl, h6, zA6, lA6, mA6, atA6⟩ := rr.slice iY.out
      rw [hny] at h6 lA6 ⊢
      replace h6 := Lib.hid h6
      replace h1 := Lib.hid (h1.out.below bb)
      replace h5 := Lib.hid (h5.out.below bb)
      replace B := Lib.hid (below_up B.out bb)
      clear HS rr bb atA6 zA6
      go_wp2_with fail
      refine (Same_yes A5 A6 ny c5 c6 Y w6 (by omega) h5 h6).mono ?_
      rintro e wx ⟨rfl, dd, rfl⟩
      replace h1 := Lib.hid (h1.out.drewN dd)
      replace B := Lib.hid (below_drewN B.out dd)
      obtain ⟨w7, hnw⟩ : ∃ wn, w6.drewN dd = wn := ⟨_, rfl⟩
      rw [hnw] at h1 B ⊢
      clear hnw h5 h6
      have HS := SShare_any A1 ns c1 S 0 (1 + (j : Int)) (k : Int) w7 (by omega) lA1 (by omega) (by omega) (by omega) (by omega) (by omega) (by omega) h1
      rw [eNone.out] at HS
      replace HS := Lib.hid HS
      go_wp2_with fail
      refine HS.out.mono ?_
      rintro e w8 ⟨v, rfl, rr, bb⟩
      obtain ⟨A8, c8, rfl, h8, zA8, lA8, mA8, atA8⟩ := rr.slice iV.out
      rw [hnv] at h8 lA8 ⊢
      replace h8 := Lib.hid h8
      replace h1 := Lib.hid (h1.out.below bb)
      replace B := Lib.hid (below_up B.out bb)
      clear HS rr bb atA8 zA8
      have HS := PPlain_any A1 ns c1 S (1 + (j : Int)) (k : Int) w8 (by omega) (by omega) (by omega) (by omega) (by omega) h1
      rw [hV.out] at HS
      replace HS := Lib.hid HS
      go_wp2_with fail
      refine HS.out.mono ?_
      rintro e w9 ⟨v, rfl, rr, bb⟩
      obtain ⟨A9, c9, rfl, h9, zA9, lA9, mA9, atA9⟩ := rr.slice iV.out
      rw [hnv] at h9 lA9 ⊢
      replace h9 := Lib.hid h9
      replace h1 := Lib.hid (h1.out.below bb)
      replace h8 := Lib.hid (h8.out.below bb)
      replace B := Lib.hid (below_up B.out bb)
      clear HS rr bb atA9 zA9
      go_wp2_with fail
      refine (Same_yes A8 A9 nv c8 c9 V w9 (by omega) h8 h9).mono ?_
      rintro e wx ⟨rfl, dd, rfl⟩
      replace h1 := Lib.hid (h1.out.drewN dd)
      replace B := Lib.hid (below_drewN B.out dd)
      obtain ⟨w10, hnw⟩ : ∃ wn, w9.drewN dd = wn := ⟨_, rfl⟩
      rw [hnw] at h1 B ⊢
      clear hnw h8 h9
      go_wp2_with fail
      refine (Known_any _).mono ?_
      rintro e wz ⟨rfl, bz⟩
      replace B := Lib.hid (below_up B.out bz)
      clear bz
      go_wp2_with fail
      go_ret
      exact ⟨rfl, B.out⟩
end Go.Proofs.Ytoojdifigfgfcaa
