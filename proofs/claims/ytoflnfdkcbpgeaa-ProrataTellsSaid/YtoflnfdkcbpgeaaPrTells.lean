/-
  The law ProrataTells: its walk.
-/
import Derived.Test.YtoflnfdkcbpgeaaPrKnown
namespace Go.Proofs.Ytoflnfdkcbpgeaa
open Go.RowKit
set_option linter.unusedVariables false
set_option linter.unusedSimpArgs false

set_option maxRecDepth 100000 in
set_option maxHeartbeats 3200000 in
theorem PTells_walk (A : Option Addr) (n cap : Nat) (xs : List Int) (top most least q small low : Int) (w : World) (hn : n ≤ 9223372036854775807) (hcap : n ≤ cap) (t1 : -9223372036854775808 ≤ top) (t2 : top ≤ 9223372036854775807) (o1 : -9223372036854775808 ≤ most) (o2 : most ≤ 9223372036854775807) (e1 : -9223372036854775808 ≤ least) (e2 : least ≤ 9223372036854775807) (q1 : -9223372036854775808 ≤ q) (q2 : q ≤ 9223372036854775807) (s1 : -9223372036854775808 ≤ small) (s2 : small ≤ 9223372036854775807) (u1 : -9223372036854775808 ≤ low) (u2 : low ≤ 9223372036854775807) (h : Hid (Holds w A n xs)) :
    Calls Try.prog 4 #[.slice A n cap, .int .i64 top, .int .i64 most, .int .i64 least, .int .i64 q, .int .i64 small, .int .i64 low] w fun e w' => e = .returned (.bool true) ∧ Below w.heap.size w w' := by
  obtain ⟨m, k, hm, hk, m1, k1, l40, hR⟩ := drawn_part xs small
  clear hR
  have okS := size_ok xs
  have HS0 := Sizes_any A n cap xs w hn h
  obtain ⟨S, hS⟩ : ∃ S, sizeL xs = S := ⟨_, rfl⟩
  rw [hS] at hm l40 okS HS0
  replace hS := Lib.hid hS
  obtain ⟨ns, hns⟩ : ∃ ns, S.length = ns := ⟨_, rfl⟩
  rw [hns] at l40
  have iS : ∀ x ∈ S, I64 x := fun x hx => by have := okS x hx; exact ⟨by omega, by omega⟩
  have okS0 : Hid (∀ x ∈ S, 0 ≤ x ∧ x ≤ 1000000) := Lib.hid (fun x hx => by have := okS x hx; omega)
  replace iS := Lib.hid iS
  clear okS
  have hj1 := withinN_le low 9
  obtain ⟨j, hj⟩ : ∃ j, withinN low 9 = j := ⟨_, rfl⟩
  rw [hj] at hj1
  replace hj := Lib.hid hj
  have ht1 := withinN_le top 45
  obtain ⟨t, ht⟩ : ∃ t, withinN top 45 = t := ⟨_, rfl⟩
  rw [ht] at ht1
  replace ht := Lib.hid ht
  have fP := plain_few S (1 + (j : Int)) (k : Int)
  have iP := small_of (plain_mem S (1 + (j : Int)) (k : Int))
  obtain ⟨P, hP⟩ : ∃ P, plainL S (1 + (j : Int)) (k : Int) = P := ⟨_, rfl⟩
  rw [hP] at fP iP
  obtain ⟨np, hnp⟩ : ∃ np, P.length = np := ⟨_, rfl⟩
  rw [hnp] at fP
  replace hP := Lib.hid hP
  replace iP := Lib.hid iP
  have fT := top_few S ((t : Int) - 1) most (1 + (j : Int)) (k : Int)
  have iT := small_of (top_mem S ((t : Int) - 1) most (1 + (j : Int)) (k : Int))
  obtain ⟨T, hT⟩ : ∃ T, topL S ((t : Int) - 1) most (1 + (j : Int)) (k : Int) = T := ⟨_, rfl⟩
  rw [hT] at fT iT
  obtain ⟨nt, hnt⟩ : ∃ nt, T.length = nt := ⟨_, rfl⟩
  rw [hnt] at fT
  replace hT := Lib.hid hT
  replace iT := Lib.hid iT
  have fP2 := plain_few xs least q
  have iP2 := small_of (plain_mem xs least q)
  obtain ⟨P2, hP2⟩ : ∃ P2, plainL xs least q = P2 := ⟨_, rfl⟩
  rw [hP2] at fP2 iP2
  obtain ⟨np2, hnp2⟩ : ∃ np2, P2.length = np2 := ⟨_, rfl⟩
  rw [hnp2] at fP2
  replace hP2 := Lib.hid hP2
  replace iP2 := Lib.hid iP2
  have fT2 := top_few xs top most least q
  have iT2 := small_of (top_mem xs top most least q)
  obtain ⟨T2, hT2⟩ : ∃ T2, topL xs top most least q = T2 := ⟨_, rfl⟩
  rw [hT2] at fT2 iT2
  obtain ⟨nt2, hnt2⟩ : ∃ nt2, T2.length = nt2 := ⟨_, rfl⟩
  rw [hnt2] at fT2
  replace hT2 := Lib.hid hT2
  replace iT2 := Lib.hid iT2
  have B := Lib.hid (Below.refl w.heap.size w)
  have h0 := h
  clear h
  go_enter Try.func4, Try.ntmps4
  have HS := HS0
  clear HS0
  replace HS := Lib.hid HS
  go_wp2_with fail
  refine HS.out.mono ?_
  rintro e w1 ⟨v, rfl, rr, bb⟩
  obtain ⟨A1, c1, rfl, h1, zA1, lA1, mA1, atA1⟩ := rr.slice iS.out
  rw [hns] at h1 lA1 ⊢
  replace h1 := Lib.hid h1
  replace h0 := Lib.hid (h0.out.below bb)
  replace B := Lib.hid (below_up B.out bb)
  clear HS rr bb atA1 zA1
  have HS := LSum_any A1 ns c1 S w1 (by omega) h1 okS0
  rw [hm] at HS
  replace HS := Lib.hid HS
  go_wp2_with fail
  refine HS.out.mono ?_
  rintro e w1 ⟨rfl, rfl⟩
  clear HS
  have HS := Within_any small m w1 (by omega) s1 s2
  rw [hk] at HS
  replace HS := Lib.hid HS
  go_wp2_with fail
  refine HS.out.mono ?_
  rintro e w1 ⟨rfl, rfl⟩
  clear HS
  have HS := Within_any low 9 w1 (by omega) u1 u2
  rw [hj.out] at HS
  replace HS := Lib.hid HS
  go_wp2_with fail
  refine HS.out.mono ?_
  rintro e w1 ⟨rfl, rfl⟩
  clear HS
  have HS := Within_any top 45 w1 (by omega) t1 t2
  rw [ht.out] at HS
  replace HS := Lib.hid HS
  go_wp2_with fail
  refine HS.out.mono ?_
  rintro e w1 ⟨rfl, rfl⟩
  clear HS
  have HS := PPlain_any A1 ns c1 S (1 + (j : Int)) (k : Int) w1 (by omega) (by omega) (by omega) (by omega) (by omega) h1
  rw [hP.out] at HS
  replace HS := Lib.hid HS
  go_wp2_with fail
  refine HS.out.mono ?_
  rintro e w2 ⟨v, rfl, rr, bb⟩
  obtain ⟨A8, c8, rfl, h8, zA8, lA8, mA8, atA8⟩ := rr.slice iP.out
  rw [hnp] at h8 lA8 ⊢
  replace h8 := Lib.hid h8
  replace h0 := Lib.hid (h0.out.below bb)
  replace h1 := Lib.hid (h1.out.below bb)
  replace B := Lib.hid (below_up B.out bb)
  clear HS rr bb atA8 zA8
  have HS := RPlain_any A1 ns c1 S (1 + (j : Int)) (k : Int) w2 (by omega) (by omega) (by omega) (by omega) (by omega) h1
  rw [hP.out] at HS
  replace HS := Lib.hid HS
  go_wp2_with fail
  refine HS.out.mono ?_
  rintro e w3 ⟨v, rfl, rr, bb⟩
  obtain ⟨A9, c9, rfl, h9, zA9, lA9, mA9, atA9⟩ := rr.slice iP.out
  rw [hnp] at h9 lA9 ⊢
  replace h9 := Lib.hid h9
  replace h0 := Lib.hid (h0.out.below bb)
  replace h1 := Lib.hid (h1.out.below bb)
  replace h8 := Lib.hid (h8.out.below bb)
  replace B := Lib.hid (below_up B.out bb)
  clear HS rr bb atA9 zA9
  go_wp2_with fail
  refine (Same_yes A8 A9 np c8 c9 P w3 (by omega) h8 h9).mono ?_
  rintro e wx ⟨rfl, dd, rfl⟩
  replace h0 := Lib.hid (h0.out.drewN dd)
  replace h1 := Lib.hid (h1.out.drewN dd)
  replace B := Lib.hid (below_drewN B.out dd)
  obtain ⟨w4, hnw⟩ : ∃ wn, w3.drewN dd = wn := ⟨_, rfl⟩
  rw [hnw] at h0 h1 B ⊢
  clear hnw h8 h9
  have HS := PShare_any A1 ns c1 S ((t : Int) - 1) most (1 + (j : Int)) (k : Int) w4 (by omega) (by omega) (by omega) o1 o2 (by omega) (by omega) (by omega) (by omega) h1
  rw [hT.out] at HS
  replace HS := Lib.hid HS
  go_wp2_with fail
  refine HS.out.mono ?_
  rintro e w5 ⟨v, rfl, rr, bb⟩
  obtain ⟨A8, c8, rfl, h8, zA8, lA8, mA8, atA8⟩ := rr.slice iT.out
  rw [hnt] at h8 lA8 ⊢
  replace h8 := Lib.hid h8
  replace h0 := Lib.hid (h0.out.below bb)
  replace h1 := Lib.hid (h1.out.below bb)
  replace B := Lib.hid (below_up B.out bb)
  clear HS rr bb atA8 zA8
  have HS := RShare_any A1 ns c1 S ((t : Int) - 1) most (1 + (j : Int)) (k : Int) w5 (by omega) (by omega) (by omega) o1 o2 (by omega) (by omega) (by omega) (by omega) h1
  rw [hT.out] at HS
  replace HS := Lib.hid HS
  go_wp2_with fail
  refine HS.out.mono ?_
  rintro e w6 ⟨v, rfl, rr, bb⟩
  obtain ⟨A9, c9, rfl, h9, zA9, lA9, mA9, atA9⟩ := rr.slice iT.out
  rw [hnt] at h9 lA9 ⊢
  replace h9 := Lib.hid h9
  replace h0 := Lib.hid (h0.out.below bb)
  replace h1 := Lib.hid (h1.out.below bb)
  replace h8 := Lib.hid (h8.out.below bb)
  replace B := Lib.hid (below_up B.out bb)
  clear HS rr bb atA9 zA9
  go_wp2_with fail
  refine (Same_yes A8 A9 nt c8 c9 T w6 (by omega) h8 h9).mono ?_
  rintro e wx ⟨rfl, dd, rfl⟩
  replace h0 := Lib.hid (h0.out.drewN dd)
  replace h1 := Lib.hid (h1.out.drewN dd)
  replace B := Lib.hid (below_drewN B.out dd)
  obtain ⟨w7, hnw⟩ : ∃ wn, w6.drewN dd = wn := ⟨_, rfl⟩
  rw [hnw] at h0 h1 B ⊢
  clear hnw h8 h9
  have HS := PPlain_any A n cap xs least q w7 hn q1 q2 e1 e2 h0
  rw [hP2.out] at HS
  replace HS := Lib.hid HS
  go_wp2_with fail
  refine HS.out.mono ?_
  rintro e w8 ⟨v, rfl, rr, bb⟩
  obtain ⟨A8, c8, rfl, h8, zA8, lA8, mA8, atA8⟩ := rr.slice iP2.out
  rw [hnp2] at h8 lA8 ⊢
  replace h8 := Lib.hid h8
  replace h0 := Lib.hid (h0.out.below bb)
  replace h1 := Lib.hid (h1.out.below bb)
  replace B := Lib.hid (below_up B.out bb)
  clear HS rr bb atA8 zA8
  have HS := RPlain_any A n cap xs least q w8 hn q1 q2 e1 e2 h0
  rw [hP2.out] at HS
  replace HS := Lib.hid HS
  go_wp2_with fail
  refine HS.out.mono ?_
  rintro e w9 ⟨v, rfl, rr, bb⟩
  obtain ⟨A9, c9, rfl, h9, zA9, lA9, mA9, atA9⟩ := rr.slice iP2.out
  rw [hnp2] at h9 lA9 ⊢
  replace h9 := Lib.hid h9
  replace h0 := Lib.hid (h0.out.below bb)
  replace h1 := Lib.hid (h1.out.below bb)
  replace h8 := Lib.hid (h8.out.below bb)
  replace B := Lib.hid (below_up B.out bb)
  clear HS rr bb atA9 zA9
  go_wp2_with fail
  refine (Same_yes A8 A9 np2 c8 c9 P2 w9 (by omega) h8 h9).mono ?_
  rintro e wx ⟨rfl, dd, rfl⟩
  replace h0 := Lib.hid (h0.out.drewN dd)
  replace h1 := Lib.hid (h1.out.drewN dd)
  replace B := Lib.hid (below_drewN B.out dd)
  obtain ⟨w10, hnw⟩ : ∃ wn, w9.drewN dd = wn := ⟨_, rfl⟩
  rw [hnw] at h0 h1 B ⊢
  clear hnw h8 h9
  have HS := PShare_any A n cap xs top most least q w10 hn t1 t2 o1 o2 e1 e2 q1 q2 h0
  rw [hT2.out] at HS
  replace HS := Lib.hid HS
  go_wp2_with fail
  refine HS.out.mono ?_
  rintro e w11 ⟨v, rfl, rr, bb⟩
  obtain ⟨A8, c8, rfl, h8, zA8, lA8, mA8, atA8⟩ := rr.slice iT2.out
  rw [hnt2] at h8 lA8 ⊢
  replace h8 := Lib.hid h8
  replace h0 := Lib.hid (h0.out.below bb)
  replace h1 := Lib.hid (h1.out.below bb)
  replace B := Lib.hid (below_up B.out bb)
  clear HS rr bb atA8 zA8
  have HS := RShare_any A n cap xs top most least q w11 hn t1 t2 o1 o2 e1 e2 q1 q2 h0
  rw [hT2.out] at HS
  replace HS := Lib.hid HS
  go_wp2_with fail
  refine HS.out.mono ?_
  rintro e w12 ⟨v, rfl, rr, bb⟩
  obtain ⟨A9, c9, rfl, h9, zA9, lA9, mA9, atA9⟩ := rr.slice iT2.out
  rw [hnt2] at h9 lA9 ⊢
  replace h9 := Lib.hid h9
  replace h0 := Lib.hid (h0.out.below bb)
  replace h1 := Lib.hid (h1.out.below bb)
  replace h8 := Lib.hid (h8.out.below bb)
  replace B := Lib.hid (below_up B.out bb)
  clear HS rr bb atA9 zA9
  go_wp2_with fail
  refine (Same_yes A8 A9 nt2 c8 c9 T2 w12 (by omega) h8 h9).mono ?_
  rintro e wx ⟨rfl, dd, rfl⟩
  replace h0 := Lib.hid (h0.out.drewN dd)
  replace h1 := Lib.hid (h1.out.drewN dd)
  replace B := Lib.hid (below_drewN B.out dd)
  obtain ⟨w13, hnw⟩ : ∃ wn, w12.drewN dd = wn := ⟨_, rfl⟩
  rw [hnw] at h0 h1 B ⊢
  clear hnw h8 h9
  go_wp2_with fail
  refine (Known_any _).mono ?_
  rintro e wz ⟨rfl, bz⟩
  replace B := Lib.hid (below_up B.out bz)
  clear bz
  go_wp2_with fail
  go_ret
  exact ⟨rfl, B.out⟩
end Go.Proofs.Ytoflnfdkcbpgeaa
