/-
  The law SplitEqual: its walk.
-/
import Derived.Test.YtoojdifigfgfcaaSpKnown
import Derived.Deep.Cut
namespace Go.Proofs.Ytoojdifigfgfcaa
open Go.RowKit
set_option linter.unusedVariables false
set_option linter.unusedSimpArgs false

set_option maxRecDepth 100000 in
set_option maxHeartbeats 3200000 in
theorem SEqual_walk (size part small low : Int) (w : World) (z1 : -9223372036854775808 ≤ size) (z2 : size ≤ 9223372036854775807) (p1 : -9223372036854775808 ≤ part) (p2 : part ≤ 9223372036854775807) (s1 : -9223372036854775808 ≤ small) (s2 : small ≤ 9223372036854775807) (u1 : -9223372036854775808 ≤ low) (u2 : low ≤ 9223372036854775807) :
    Calls Try.prog 6 #[.int .i64 size, .int .i64 part, .int .i64 small, .int .i64 low] w fun e w' => e = .returned (.bool true) ∧ Below w.heap.size w w' := by
  have hc1 := withinN_le size 999
  obtain ⟨c, hc⟩ : ∃ c, withinN size 999 = c := ⟨_, rfl⟩
  rw [hc] at hc1
  replace hc := Lib.hid hc
  have hp1 := withinN_le part 100
  obtain ⟨p, hp⟩ : ∃ p, withinN part 100 = p := ⟨_, rfl⟩
  rw [hp] at hp1
  replace hp := Lib.hid hp
  have hj1 := withinN_le low 9
  obtain ⟨j, hj⟩ : ∃ j, withinN low 9 = j := ⟨_, rfl⟩
  rw [hj] at hj1
  replace hj := Lib.hid hj
  obtain ⟨z, fz⟩ : ∃ z : Nat, 1 + (c : Int) = (z : Int) := ⟨1 + c, by omega⟩
  obtain ⟨zz, fzz⟩ : ∃ zz : Nat, 2 * (z : Int) = (zz : Int) := ⟨2 * z, by omega⟩
  have hk1 := withinN_le small zz
  obtain ⟨k, hk⟩ : ∃ k, withinN small zz = k := ⟨_, rfl⟩
  rw [hk] at hk1
  replace hk := Lib.hid hk
  have ho1 := withinN_le small z
  obtain ⟨one, ho⟩ : ∃ one, withinN small z = one := ⟨_, rfl⟩
  rw [ho] at ho1
  replace ho := Lib.hid ho
  obtain ⟨x, y, eX, xy, sxy, y0, xz⟩ := split_two (z := (z : Int)) (k := (k : Int)) (part := (p : Int)) (least := 1 + (j : Int)) (by omega) (by omega) (by omega) (by omega) (by omega) (by omega) (by omega)
  have eO := split_one (z := (z : Int)) (k := (one : Int)) (part := (p : Int)) (least := 1 + (j : Int)) (by omega) (by omega) (by omega) (by omega) (by omega) (by omega) (by omega)
  have hR : rightL [(z : Int), (z : Int), 3] ((zz : Int) + 3) = true := (right_iff _ _).2 ⟨by simp, fun x hx => by simp only [List.mem_cons, List.not_mem_nil, or_false] at hx; omega, by omega, by simp only [sumL]; omega⟩
  have eT := split_full (part := (p : Int)) (least := 1 + (j : Int)) hR (by omega) (by omega) (by omega) (by simp only [sumL]; omega)
  have iX : Hid (∀ v ∈ [x, y], I64 v) := Lib.hid (fun v hv => by simp only [List.mem_cons, List.not_mem_nil, or_false] at hv; exact ⟨by omega, by omega⟩)
  have iO : Hid (∀ v ∈ [(one : Int)], I64 v) := Lib.hid (fun v hv => by simp only [List.mem_cons, List.not_mem_nil, or_false] at hv; exact ⟨by omega, by omega⟩)
  have iT : Hid (∀ v ∈ [(z : Int), (z : Int), 3], I64 v) := Lib.hid (fun v hv => by simp only [List.mem_cons, List.not_mem_nil, or_false] at hv; exact ⟨by omega, by omega⟩)
  have iZ : Hid (∀ v ∈ [(z : Int), (z : Int)], I64 v) := Lib.hid (fun v hv => by simp only [List.mem_cons, List.not_mem_nil, or_false] at hv; exact ⟨by omega, by omega⟩)
  have iU : Hid (∀ v ∈ [(z : Int)], I64 v) := Lib.hid (fun v hv => by simp only [List.mem_cons, List.not_mem_nil, or_false] at hv; exact ⟨by omega, by omega⟩)
  replace eX := Lib.hid eX
  replace eO := Lib.hid eO
  replace eT := Lib.hid eT
  clear hR
  have B := Lib.hid (Below.refl w.heap.size w)
  go_enter Try.func6, Try.ntmps6
  have HS := Within_any size 999 w (by omega) z1 z2
  rw [hc.out] at HS
  replace HS := Lib.hid HS
  go_wp2_with fail
  refine HS.out.mono ?_
  rintro e w ⟨rfl, rfl⟩
  clear HS
  have HS := Within_any part 100 w (by omega) p1 p2
  rw [hp.out] at HS
  replace HS := Lib.hid HS
  go_wp2_with fail
  refine HS.out.mono ?_
  rintro e w ⟨rfl, rfl⟩
  clear HS
  have HS := Within_any low 9 w (by omega) u1 u2
  rw [hj.out] at HS
  replace HS := Lib.hid HS
  go_wp2_with fail
  refine HS.out.mono ?_
  rintro e w ⟨rfl, rfl⟩
  clear HS
  have HS := Within_any small zz w (by omega) s1 s2
  rw [hk.out] at HS
  replace HS := Lib.hid HS
  go_wp2_with fail
  refine HS.out.mono ?_
  rintro e w ⟨rfl, rfl⟩
  clear HS
  go_wp2_with fail
  have hL := Lib.hid (holds_lit w [(z : Int), (z : Int)] 2 iZ.out)
  replace B := Lib.hid (B.out.alloc B.out.size (.cells #[.int .i64 (z : Int), .int .i64 (z : Int)] 2))
  simp only [List.length_cons, List.length_nil, List.map_cons, List.map_nil, Nat.zero_add, Nat.reduceAdd] at hL
  obtain ⟨wl, hwl⟩ : ∃ wl, w.alloc (.cells #[.int .i64 (z : Int), .int .i64 (z : Int)] 2) = wl := ⟨_, rfl⟩
  rw [hwl] at hL B  ⊢
  obtain ⟨ga, hga⟩ : ∃ ga, w.heap.size = ga := ⟨_, rfl⟩
  rw [hga] at hL ⊢
  clear hwl hga
  have HS := SShare_any (some ⟨ga, 0, none⟩) 2 2 [(z : Int), (z : Int)] (p : Int) (1 + (j : Int)) (k : Int) wl (by omega) (by omega) (by omega) (by omega) (by omega) (by omega) (by omega) (by omega) hL
  rw [eX.out] at HS
  replace HS := Lib.hid HS
  refine HS.out.mono ?_
  rintro e w1 ⟨v, rfl, rr, bb⟩
  obtain ⟨A1, c1, rfl, h1, zA1, lA1, mA1, atA1⟩ := rr.slice iX.out
  simp only [List.length_cons, List.length_nil, Nat.zero_add, Nat.reduceAdd] at h1 lA1 ⊢
  replace h1 := Lib.hid h1
  replace B := Lib.hid (below_up B.out bb)
  clear HS rr bb atA1 zA1 hL
  obtain ⟨ba, oa, rfl, ha⟩ := h1.out.2.2 (by omega)
  have x0 := ha 0 (by omega)
  have x1 := ha 1 (by omega)
  simp only [List.getD_cons_zero, List.getD_cons_succ, Nat.add_zero] at x0 x1
  clear ha
  have d2 : decide (x < y) = false := decide_eq_false (by omega)
  have dn : (x + y != (k : Int)) = false := by rw [sxy]; simp
  have wxy : wrap64 (x + y) = x + y := IntWalk.wrap64_in _ ⟨by omega, by omega⟩
  have wxy2 : IntKind.i64.wrap (x + y) = x + y := IntWalk.i64_in _ (by omega)
  replace sxy := Lib.hid sxy
  go_wp2_with fail
  go_quiet (fail)
  replace B := Lib.hid (below_drewN B.out nq)
  obtain ⟨w2, hw2⟩ : ∃ w2, w1.drewN nq = w2 := ⟨_, rfl⟩
  rw [hw2] at B ⊢
  clear hw2 x0 x1 dn d2 h1
  have HS := Within_any small z w2 (by omega) s1 s2
  rw [ho.out] at HS
  replace HS := Lib.hid HS
  go_wp2_with fail
  refine HS.out.mono ?_
  rintro e w2 ⟨rfl, rfl⟩
  clear HS
  go_wp2_with fail
  have hL := Lib.hid (holds_lit w2 [(z : Int)] 2 iU.out)
  replace B := Lib.hid (B.out.alloc B.out.size (.cells #[.int .i64 (z : Int)] 2))
  simp only [List.length_cons, List.length_nil, List.map_cons, List.map_nil, Nat.zero_add, Nat.reduceAdd] at hL
  obtain ⟨wl, hwl⟩ : ∃ wl, w2.alloc (.cells #[.int .i64 (z : Int)] 2) = wl := ⟨_, rfl⟩
  rw [hwl] at hL B  ⊢
  obtain ⟨ga, hga⟩ : ∃ ga, w2.heap.size = ga := ⟨_, rfl⟩
  rw [hga] at hL ⊢
  clear hwl hga
  have HS := SShare_any (some ⟨ga, 0, none⟩) 1 1 [(z : Int)] (p : Int) (1 + (j : Int)) (one : Int) wl (by omega) (by omega) (by omega) (by omega) (by omega) (by omega) (by omega) (by omega) hL
  rw [eO.out] at HS
  replace HS := Lib.hid HS
  refine HS.out.mono ?_
  rintro e w3 ⟨v, rfl, rr, bb⟩
  obtain ⟨A3, c3, rfl, h3, zA3, lA3, mA3, atA3⟩ := rr.slice iO.out
  simp only [List.length_cons, List.length_nil, Nat.zero_add, Nat.reduceAdd] at h3 lA3 ⊢
  replace h3 := Lib.hid h3
  replace B := Lib.hid (below_up B.out bb)
  clear HS rr bb atA3 zA3 hL
  go_wp2_with fail
  have hL := Lib.hid (holds_lit w3 [(one : Int)] 2 iO.out)
  replace B := Lib.hid (B.out.alloc B.out.size (.cells #[.int .i64 (one : Int)] 2))
  replace h3 := Lib.hid (h3.out.alloc (.cells #[.int .i64 (one : Int)] 2))
  simp only [List.length_cons, List.length_nil, List.map_cons, List.map_nil, Nat.zero_add, Nat.reduceAdd] at hL
  obtain ⟨wl, hwl⟩ : ∃ wl, w3.alloc (.cells #[.int .i64 (one : Int)] 2) = wl := ⟨_, rfl⟩
  rw [hwl] at hL B h3 ⊢
  obtain ⟨ga, hga⟩ : ∃ ga, w3.heap.size = ga := ⟨_, rfl⟩
  rw [hga] at hL ⊢
  clear hwl hga
  refine (Same_yes A3 (some ⟨ga, 0, none⟩) 1 c3 1 [(one : Int)] wl (by omega) h3 hL).mono ?_
  rintro e wx ⟨rfl, dd, rfl⟩
  replace B := Lib.hid (below_drewN B.out dd)
  obtain ⟨w4, hnw⟩ : ∃ wn, wl.drewN dd = wn := ⟨_, rfl⟩
  rw [hnw] at B ⊢
  clear hnw hL h3
  go_wp2_with fail
  have hL := Lib.hid (holds_lit w4 [(z : Int), (z : Int), 3] 2 iT.out)
  replace B := Lib.hid (B.out.alloc B.out.size (.cells #[.int .i64 (z : Int), .int .i64 (z : Int), .int .i64 3] 2))
  simp only [List.length_cons, List.length_nil, List.map_cons, List.map_nil, Nat.zero_add, Nat.reduceAdd] at hL
  obtain ⟨wl, hwl⟩ : ∃ wl, w4.alloc (.cells #[.int .i64 (z : Int), .int .i64 (z : Int), .int .i64 3] 2) = wl := ⟨_, rfl⟩
  rw [hwl] at hL B  ⊢
  obtain ⟨ga, hga⟩ : ∃ ga, w4.heap.size = ga := ⟨_, rfl⟩
  rw [hga] at hL ⊢
  clear hwl hga
  have HS := SShare_any (some ⟨ga, 0, none⟩) 3 3 [(z : Int), (z : Int), 3] (p : Int) (1 + (j : Int)) ((zz : Int) + 3) wl (by omega) (by omega) (by omega) (by omega) (by omega) (by omega) (by omega) (by omega) hL
  rw [eT.out] at HS
  replace HS := Lib.hid HS
  refine HS.out.mono ?_
  rintro e w5 ⟨v, rfl, rr, bb⟩
  obtain ⟨A5, c5, rfl, h5, zA5, lA5, mA5, atA5⟩ := rr.slice iT.out
  simp only [List.length_cons, List.length_nil, Nat.zero_add, Nat.reduceAdd] at h5 lA5 ⊢
  replace h5 := Lib.hid h5
  replace B := Lib.hid (below_up B.out bb)
  clear HS rr bb atA5 zA5 hL
  go_wp2_with fail
  have hL := Lib.hid (holds_lit w5 [(z : Int), (z : Int), 3] 2 iT.out)
  replace B := Lib.hid (B.out.alloc B.out.size (.cells #[.int .i64 (z : Int), .int .i64 (z : Int), .int .i64 3] 2))
  replace h5 := Lib.hid (h5.out.alloc (.cells #[.int .i64 (z : Int), .int .i64 (z : Int), .int .i64 3] 2))
  simp only [List.length_cons, List.length_nil, List.map_cons, List.map_nil, Nat.zero_add, Nat.reduceAdd] at hL
  obtain ⟨wl, hwl⟩ : ∃ wl, w5.alloc (.cells #[.int .i64 (z : Int), .int .i64 (z : Int), .int .i64 3] 2) = wl := ⟨_, rfl⟩
  rw [hwl] at hL B h5 ⊢
  obtain ⟨ga, hga⟩ : ∃ ga, w5.heap.size = ga := ⟨_, rfl⟩
  rw [hga] at hL ⊢
  clear hwl hga
  refine (Same_yes A5 (some ⟨ga, 0, none⟩) 3 c5 3 [(z : Int), (z : Int), 3] wl (by omega) h5 hL).mono ?_
  rintro e wx ⟨rfl, dd, rfl⟩
  replace B := Lib.hid (below_drewN B.out dd)
  obtain ⟨w6, hnw⟩ : ∃ wn, wl.drewN dd = wn := ⟨_, rfl⟩
  rw [hnw] at B ⊢
  clear hnw hL h5
  go_wp2_with fail
  refine (Known_any _).mono ?_
  rintro e wz ⟨rfl, bz⟩
  replace B := Lib.hid (below_up B.out bz)
  clear bz
  go_wp2_with fail
  go_ret
  exact ⟨rfl, B.out⟩
end Go.Proofs.Ytoojdifigfgfcaa
