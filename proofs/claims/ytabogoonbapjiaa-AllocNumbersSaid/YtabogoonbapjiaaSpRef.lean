/-
  The document's shares in two parts: Share.
-/
import Derived.Test.YtabogoonbapjiaaSp
import Derived.Test.YtabogoonbapjiaaSpShare
namespace Go.Proofs.Ytabogoonbapjiaa
open Go.RowKit
set_option linter.unusedVariables false
set_option linter.unusedSimpArgs false

set_option maxRecDepth 100000 in
set_option maxHeartbeats 3200000 in
theorem RSplit_any (A : Option Addr) (n cap : Nat) (xs : List Int) (part least q : Int) (w : World) (hn : n ≤ 9223372036854775807) (p1 : -9223372036854775808 ≤ part) (p2 : part ≤ 9223372036854775807) (m1 : -9223372036854775808 ≤ least) (m2 : least ≤ 9223372036854775807) (q1 : -9223372036854775808 ≤ q) (q2 : q ≤ 9223372036854775807) (h : Hid (Holds w A n xs)) :
    Calls Try.prog 23 #[.slice A n cap, .int .i64 part, .int .i64 least, .int .i64 q] w (Gave w (splitL xs part least q)) := by
  have HR := RRight_any A n cap xs q w hn q1 q2 h
  cases hr : rightL xs q with
  | false =>
    rw [split_no (by rw [hr]; rfl)]
    rw [hr] at HR
    replace HR := Lib.hid HR
    clear hr
    go_enter Try.func23, Try.ntmps23
    go_wp2_with fail
    refine HR.out.mono ?_
    rintro e w1 ⟨rfl, rfl⟩
    go_wp2_with fail
    go_ret
    exact ⟨_, rfl, row_nil _ _, Below.refl _ _⟩
  | true =>
  rw [hr] at HR
  replace HR := Lib.hid HR
  by_cases ha : part < 0
  · have da : decide (part < 0) = true := decide_eq_true ha
    rw [split_no (by rw [hr, decide_eq_false (show ¬ 0 ≤ part by omega)]; rfl)]
    clear hr
    go_enter Try.func23, Try.ntmps23
    go_wp2_with fail
    refine HR.out.mono ?_
    rintro e w1 ⟨rfl, rfl⟩
    go_wp2_with fail
    go_ret
    exact ⟨_, rfl, row_nil _ _, Below.refl _ _⟩
  have da : decide (part < 0) = false := decide_eq_false ha
  by_cases hb : 100 < part
  · have db : decide (100 < part) = true := decide_eq_true hb
    rw [split_no (by rw [hr, decide_eq_false (show ¬ part ≤ 100 by omega)]; simp)]
    clear hr
    go_enter Try.func23, Try.ntmps23
    go_wp2_with fail
    refine HR.out.mono ?_
    rintro e w1 ⟨rfl, rfl⟩
    go_wp2_with fail
    go_ret
    exact ⟨_, rfl, row_nil _ _, Below.refl _ _⟩
  have db : decide (100 < part) = false := decide_eq_false hb
  by_cases hm : least < 1
  · have dm : decide (least < 1) = true := decide_eq_true hm
    rw [split_no (by rw [hr, decide_eq_false (show ¬ 1 ≤ least by omega)]; simp)]
    clear hr
    go_enter Try.func23, Try.ntmps23
    go_wp2_with fail
    refine HR.out.mono ?_
    rintro e w1 ⟨rfl, rfl⟩
    go_wp2_with fail
    go_ret
    exact ⟨_, rfl, row_nil _ _, Below.refl _ _⟩
  have dm : decide (least < 1) = false := decide_eq_false hm
  obtain ⟨Ka, F, eK, eF, k1, k2, hRK, lF, fF, hcut⟩ := split_facts (l := xs) (part := part) (least := least) hr (by omega) (by omega) (by omega)
  rw [split_yes hr (by omega) (by omega) (by omega), splitB_eq, eK, eF]
  clear hcut
  obtain ⟨hl, hx, hq, hqs⟩ := (right_iff xs q).1 hr
  have hlen := h.out.1
  have hbd := (sumL_bound xs 1000000 (fun x hh => by have := hx x hh; omega)).2
  have hq3 : q ≤ 250000000 := by omega
  have sF : sumL F = Ka := by rw [← eF]; exact fill_all xs Ka (fun x hh => by have := hx x hh; omega) k1 (by omega)
  have hll : xs.length = F.length := lF.symm
  have lS : (subZ xs F).length = n := by rw [subZ_len hll]; exact hlen
  have bS : ∀ x ∈ subZ xs F, 0 ≤ x ∧ x ≤ 1000000 := fun y hy => by
    obtain ⟨k, hk, rfl⟩ := subZ_mem hll hy
    have := fF k (by omega)
    omega
  have sS : sumL (subZ xs F) = sumL xs - Ka := by rw [subZ_sum hll, sF]
  rw [hlen] at hl lF fF
  have iF : ∀ x ∈ F, I64 x := fun x hh => by
    obtain ⟨j, hj, rfl⟩ := mem_getD hh
    have := fF j (by omega)
    exact ⟨by omega, by omega⟩
  have hfit1 : Hid (∀ k, k < n → 0 ≤ F.getD k 0 ∧ F.getD k 0 ≤ 1000000 ∧ 0 ≤ xs.getD k 0 ∧ xs.getD k 0 ≤ 1000000) := Lib.hid (fun k hk => by have := fF k hk; omega)
  have rS : q - Ka ≤ sumL (subZ xs F) := by omega
  have lE := plainB_len (subZ xs F) least (q - Ka)
  have bE := plainB_mem (least := least) bS (q := q - Ka) (by omega) rS
  have iE := small_of bE
  have iS := small_of bS
  obtain ⟨S, hS⟩ : ∃ S, subZ xs F = S := ⟨_, rfl⟩
  simp only [hS] at lS bS sS rS lE bE iE iS ⊢
  obtain ⟨E, hE⟩ : ∃ E, plainB S least (q - Ka) = E := ⟨_, rfl⟩
  simp only [hE] at lE bE iE ⊢
  rw [lS] at lE
  have hfit2 : Hid (∀ k, k < n → 0 ≤ E.getD k 0 ∧ E.getD k 0 ≤ 1000000 ∧ 0 ≤ F.getD k 0 ∧ F.getD k 0 ≤ 1000000) := Lib.hid (fun k hk => by
    have a := hfit1.out k hk
    have b := bE _ (getD_mem (show k < E.length by omega))
    omega)
  obtain ⟨Z, hZ⟩ : ∃ Z, addZ F E = Z := ⟨_, rfl⟩
  rw [hZ]
  have HSh := RefShare_any q part 100 w hq q2 (by omega) p2 (by omega) (by omega)
  rw [← early_eq, eK] at HSh
  rw [pick_yes (fitB_yes (x := Ka) (by omega) (by omega)), fitB_yes (x := Ka) (by omega) (by omega)] at HSh
  replace HSh := Lib.hid HSh
  have w2r : wrap64 (q - Ka) = q - Ka := IntWalk.wrap64_in _ ⟨by omega, by omega⟩
  have r1 : 0 ≤ q - Ka := by omega
  have r2 : q - Ka ≤ 250000000 := by omega
  replace eK := Lib.hid eK
  replace eF := Lib.hid eF
  replace iF := Lib.hid iF
  replace iS := Lib.hid iS
  replace iE := Lib.hid iE
  replace bS := Lib.hid bS
  replace hS := Lib.hid hS
  replace hE := Lib.hid hE
  replace hZ := Lib.hid hZ
  replace rS := Lib.hid rS
  replace hRK := Lib.hid hRK
  clear hr hx hqs hbd ha hb hll sF sS bE fF
  have B := Lib.hid (Below.refl w.heap.size w)
  go_enter Try.func23, Try.ntmps23
  go_wp2_with fail
  refine HR.out.mono ?_
  rintro e w ⟨rfl, rfl⟩
  clear HR
  go_wp2_with fail
  refine HSh.out.mono ?_
  rintro e wx ⟨rfl, rfl⟩
  clear HSh
  have HS := RFill_any A n cap xs Ka w h hRK.out
  rw [eF.out] at HS
  replace HS := Lib.hid HS
  go_wp2_with fail
  refine HS.out.mono ?_
  rintro e w1 ⟨v, rfl, rr, bb⟩
  obtain ⟨A1, c1, rfl, h1, zA1, lA1, mA1, atA1⟩ := rr.slice iF.out
  rw [lF] at h1 lA1 ⊢
  replace h1 := Lib.hid h1
  replace h := Lib.hid (h.out.below bb)
  replace B := Lib.hid (below_up B.out bb)
  clear HS rr bb atA1 zA1
  have HS := RRest_any A n cap xs A1 c1 F w1 hl h h1 hfit1
  rw [hS.out] at HS
  replace HS := Lib.hid HS
  go_wp2_with fail
  refine HS.out.mono ?_
  rintro e w2 ⟨v, rfl, rr, bb⟩
  obtain ⟨A2, c2, rfl, h2, zA2, lA2, mA2, atA2⟩ := rr.slice iS.out
  rw [lS] at h2 lA2 ⊢
  replace h2 := Lib.hid h2
  replace h1 := Lib.hid (h1.out.below bb)
  replace B := Lib.hid (below_up B.out bb)
  clear HS rr bb atA2 zA2
  have HS := RBy_any A2 n c2 S least (q - Ka) w2 h2 hl bS.out (by omega) rS.out (by omega) m2
  rw [hE.out] at HS
  replace HS := Lib.hid HS
  go_wp2_with fail
  refine HS.out.mono ?_
  rintro e w3 ⟨v, rfl, rr, bb⟩
  obtain ⟨A3, c3, rfl, h3, zA3, lA3, mA3, atA3⟩ := rr.slice iE.out
  rw [lE] at h3 lA3 ⊢
  replace h3 := Lib.hid h3
  replace h1 := Lib.hid (h1.out.below bb)
  replace B := Lib.hid (below_up B.out bb)
  clear HS rr bb atA3 zA3
  have HS := RBoth_any A1 n c1 F A3 c3 E w3 hl h1 h3 hfit2
  rw [hZ.out] at HS
  replace HS := Lib.hid HS
  go_wp2_with fail
  refine HS.out.mono ?_
  rintro e w4 ⟨v, rfl, r4, b4⟩
  have r5 := Lib.hid (r4.base B.out.size)
  have B4 := Lib.hid (below_up B.out b4)
  clear HS r4 b4
  go_wp2_with fail
  go_ret
  exact ⟨_, rfl, r5.out, B4.out⟩
end Go.Proofs.Ytabogoonbapjiaa
