/-
  The law SplitTells: its walk.
-/
import Derived.Test.YtoojdifigfgfcaaSpKnown
import Derived.Deep.Cut
namespace Go.Proofs.Ytoojdifigfgfcaa
open Go.RowKit
set_option linter.unusedVariables false
set_option linter.unusedSimpArgs false

set_option maxRecDepth 100000 in
set_option maxHeartbeats 3200000 in
theorem STells_walk (A : Option Addr) (n cap : Nat) (xs : List Int) (part least q small low hund : Int) (w : World) (hn : n ≤ 9223372036854775807) (hcap : n ≤ cap) (p1 : -9223372036854775808 ≤ part) (p2 : part ≤ 9223372036854775807) (e1 : -9223372036854775808 ≤ least) (e2 : least ≤ 9223372036854775807) (q1 : -9223372036854775808 ≤ q) (q2 : q ≤ 9223372036854775807) (s1 : -9223372036854775808 ≤ small) (s2 : small ≤ 9223372036854775807) (u1 : -9223372036854775808 ≤ low) (u2 : low ≤ 9223372036854775807) (v1 : -9223372036854775808 ≤ hund) (v2 : hund ≤ 9223372036854775807) (h : Hid (Holds w A n xs)) :
    Calls Try.prog 4 #[.slice A n cap, .int .i64 part, .int .i64 least, .int .i64 q, .int .i64 small, .int .i64 low, .int .i64 hund] w fun e w' => e = .returned (.bool true) ∧ Below w.heap.size w w' := by
  obtain ⟨m, k, hm, hk, m1, k1, l40, hR⟩ := drawn_part xs small
  have okS := size_ok xs
  have HS0 := Sizes_any A n cap xs w hn h
  obtain ⟨S, hS⟩ : ∃ S, sizeL xs = S := ⟨_, rfl⟩
  rw [hS] at hm l40 okS HS0 hR
  replace hS := Lib.hid hS
  obtain ⟨ns, hns⟩ : ∃ ns, S.length = ns := ⟨_, rfl⟩
  rw [hns] at l40
  have iS : ∀ x ∈ S, I64 x := fun x hx => by have := okS x hx; exact ⟨by omega, by omega⟩
  have okS0 : Hid (∀ x ∈ S, 0 ≤ x ∧ x ≤ 1000000) := Lib.hid (fun x hx => by have := okS x hx; omega)
  replace iS := Lib.hid iS
  clear okS hR
  have hj1 := withinN_le low 9
  obtain ⟨j, hj⟩ : ∃ j, withinN low 9 = j := ⟨_, rfl⟩
  rw [hj] at hj1
  replace hj := Lib.hid hj
  have hp1 := withinN_le hund 100
  obtain ⟨p, hp⟩ : ∃ p, withinN hund 100 = p := ⟨_, rfl⟩
  rw [hp] at hp1
  replace hp := Lib.hid hp
  have fP := split_few S (p : Int) (1 + (j : Int)) (k : Int)
  have iP := small_of (split_mem S (p : Int) (1 + (j : Int)) (k : Int))
  obtain ⟨P, hP⟩ : ∃ P, splitL S (p : Int) (1 + (j : Int)) (k : Int) = P := ⟨_, rfl⟩
  rw [hP] at fP iP
  obtain ⟨np, hnp⟩ : ∃ np, P.length = np := ⟨_, rfl⟩
  rw [hnp] at fP
  replace hP := Lib.hid hP
  replace iP := Lib.hid iP
  have fP2 := split_few xs part least q
  have iP2 := small_of (split_mem xs part least q)
  obtain ⟨P2, hP2⟩ : ∃ P2, splitL xs part least q = P2 := ⟨_, rfl⟩
  rw [hP2] at fP2 iP2
  obtain ⟨np2, hnp2⟩ : ∃ np2, P2.length = np2 := ⟨_, rfl⟩
  rw [hnp2] at fP2
  replace hP2 := Lib.hid hP2
  replace iP2 := Lib.hid iP2
  have B := Lib.hid (Below.refl w.heap.size w)
  have h0 := h
  clear h
  go_enter Try.func4, Try.ntmps4
  have HS := HS0
  clear HS0
  replace HS := Lib.hid HS
  go_wp2_with fail
  refine HS.out.mono ?_
  rintro e w1 ⟨v, rfl, rr, bb⟩
  obtain ⟨A1, c1, rfl, h1, zA1, lA1, mA1, atA1⟩ := rr.slice iS.out
  rw [hns] at h1 lA1 ⊢
  replace h1 := Lib.hid h1
  replace h0 := Lib.hid (h0.out.below bb)
  replace B := Lib.hid (below_up B.out bb)
  clear HS rr bb atA1 zA1
  have HS := LSum_any A1 ns c1 S w1 (by omega) h1 okS0
  rw [hm] at HS
  replace HS := Lib.hid HS
  go_wp2_with fail
  refine HS.out.mono ?_
  rintro e w1 ⟨rfl, rfl⟩
  clear HS
  have HS := Within_any small m w1 (by omega) s1 s2
  rw [hk] at HS
  replace HS := Lib.hid HS
  go_wp2_with fail
  refine HS.out.mono ?_
  rintro e w1 ⟨rfl, rfl⟩
  clear HS
  have HS := Within_any low 9 w1 (by omega) u1 u2
  rw [hj.out] at HS
  replace HS := Lib.hid HS
  go_wp2_with fail
  refine HS.out.mono ?_
  rintro e w1 ⟨rfl, rfl⟩
  clear HS
  have HS := Within_any hund 100 w1 (by omega) v1 v2
  rw [hp.out] at HS
  replace HS := Lib.hid HS
  go_wp2_with fail
  refine HS.out.mono ?_
  rintro e w1 ⟨rfl, rfl⟩
  clear HS
  have HS := SShare_any A1 ns c1 S (p : Int) (1 + (j : Int)) (k : Int) w1 (by omega) lA1 (by omega) (by omega) (by omega) (by omega) (by omega) (by omega) h1
  rw [hP.out] at HS
  replace HS := Lib.hid HS
  go_wp2_with fail
  refine HS.out.mono ?_
  rintro e w2 ⟨v, rfl, rr, bb⟩
  obtain ⟨A8, c8, rfl, h8, zA8, lA8, mA8, atA8⟩ := rr.slice iP.out
  rw [hnp] at h8 lA8 ⊢
  replace h8 := Lib.hid h8
  replace h0 := Lib.hid (h0.out.below bb)
  replace h1 := Lib.hid (h1.out.below bb)
  replace B := Lib.hid (below_up B.out bb)
  clear HS rr bb atA8 zA8
  have HS := RSplit_any A1 ns c1 S (p : Int) (1 + (j : Int)) (k : Int) w2 (by omega) (by omega) (by omega) (by omega) (by omega) (by omega) (by omega) h1
  rw [hP.out] at HS
  replace HS := Lib.hid HS
  go_wp2_with fail
  refine HS.out.mono ?_
  rintro e w3 ⟨v, rfl, rr, bb⟩
  obtain ⟨A9, c9, rfl, h9, zA9, lA9, mA9, atA9⟩ := rr.slice iP.out
  rw [hnp] at h9 lA9 ⊢
  replace h9 := Lib.hid h9
  replace h0 := Lib.hid (h0.out.below bb)
  replace h1 := Lib.hid (h1.out.below bb)
  replace h8 := Lib.hid (h8.out.below bb)
  replace B := Lib.hid (below_up B.out bb)
  clear HS rr bb atA9 zA9
  go_wp2_with fail
  refine (Same_yes A8 A9 np c8 c9 P w3 (by omega) h8 h9).mono ?_
  rintro e wx ⟨rfl, dd, rfl⟩
  replace h0 := Lib.hid (h0.out.drewN dd)
  replace h1 := Lib.hid (h1.out.drewN dd)
  replace B := Lib.hid (below_drewN B.out dd)
  obtain ⟨w4, hnw⟩ : ∃ wn, w3.drewN dd = wn := ⟨_, rfl⟩
  rw [hnw] at h0 h1 B ⊢
  clear hnw h8 h9
  have HS := SShare_any A n cap xs part least q w4 hn hcap p1 p2 e1 e2 q1 q2 h0
  rw [hP2.out] at HS
  replace HS := Lib.hid HS
  go_wp2_with fail
  refine HS.out.mono ?_
  rintro e w5 ⟨v, rfl, rr, bb⟩
  obtain ⟨A8, c8, rfl, h8, zA8, lA8, mA8, atA8⟩ := rr.slice iP2.out
  rw [hnp2] at h8 lA8 ⊢
  replace h8 := Lib.hid h8
  replace h0 := Lib.hid (h0.out.below bb)
  replace h1 := Lib.hid (h1.out.below bb)
  replace B := Lib.hid (below_up B.out bb)
  clear HS rr bb atA8 zA8
  have HS := RSplit_any A n cap xs part least q w5 hn p1 p2 e1 e2 q1 q2 h0
  rw [hP2.out] at HS
  replace HS := Lib.hid HS
  go_wp2_with fail
  refine HS.out.mono ?_
  rintro e w6 ⟨v, rfl, rr, bb⟩
  obtain ⟨A9, c9, rfl, h9, zA9, lA9, mA9, atA9⟩ := rr.slice iP2.out
  rw [hnp2] at h9 lA9 ⊢
  replace h9 := Lib.hid h9
  replace h0 := Lib.hid (h0.out.below bb)
  replace h1 := Lib.hid (h1.out.below bb)
  replace h8 := Lib.hid (h8.out.below bb)
  replace B := Lib.hid (below_up B.out bb)
  clear HS rr bb atA9 zA9
  go_wp2_with fail
  refine (Same_yes A8 A9 np2 c8 c9 P2 w6 (by omega) h8 h9).mono ?_
  rintro e wx ⟨rfl, dd, rfl⟩
  replace h0 := Lib.hid (h0.out.drewN dd)
  replace h1 := Lib.hid (h1.out.drewN dd)
  replace B := Lib.hid (below_drewN B.out dd)
  obtain ⟨w7, hnw⟩ : ∃ wn, w6.drewN dd = wn := ⟨_, rfl⟩
  rw [hnw] at h0 h1 B ⊢
  clear hnw h8 h9
  go_wp2_with fail
  refine (Known_any _).mono ?_
  rintro e wz ⟨rfl, bz⟩
  replace B := Lib.hid (below_up B.out bz)
  clear bz
  go_wp2_with fail
  go_ret
  exact ⟨rfl, B.out⟩
end Go.Proofs.Ytoojdifigfgfcaa
