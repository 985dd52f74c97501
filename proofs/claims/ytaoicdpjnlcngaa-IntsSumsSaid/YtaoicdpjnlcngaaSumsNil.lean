/-
  The walk of the law IntsSums, the nil slice.
-/
import Derived.Test.YtaoicdpjnlcngaaSumsPlain
namespace Go.Proofs.Ytaoicdpjnlcngaa
open Go.RowKit
set_option linter.unusedVariables false

set_option maxRecDepth 100000 in
set_option maxHeartbeats 4000000 in
theorem Sums_nil (x at_ : Int) (w : World) (x1 : -9223372036854775807 ≤ x) (x2 : x ≤ 9223372036854775807) (t1 : -9223372036854775808 ≤ at_) (t2 : at_ ≤ 9223372036854775807) :
    Calls Try.prog 7 #[.slice none 0 0, .int .i64 x, .int .i64 at_] w (fun e w' => e = .returned (.bool true) ∧ Below w.heap.size w w') := by
  obtain ⟨i0, hi0, hz0, hz1, hz2⟩ := info_parts int_info
  have neq : (x == -9223372036854775808) = false := beq_eq_false_iff_ne.2 (by omega)
  have h : Hid (Holds w none 0 []) := Lib.hid (holds_none w none)
  go_enter Try.func7, Try.ntmps7
  go_wp2_with fail
  refine (Sum_any _ _ _ [] _ (by omega) h).mono ?_
  rintro e w' ⟨rfl, rfl⟩
  obtain ⟨ps, hps⟩ : ∃ ps, pick (sumL []) = ps := ⟨_, rfl⟩
  obtain ⟨fs, hfs⟩ : ∃ fs, fitB (sumL []) = fs := ⟨_, rfl⟩
  rw [hps, hfs]
  have Hps := Lib.hid hps
  have Hfs := Lib.hid hfs
  clear hps hfs
  go_wp2_with fail
  go_loopw [9, 10] (fun v i wr => v = .slice none 0 0 ∧ i = .int .i64 (-1) ∧ wr = w) (fun _ _ _ => 0)
  case atStart => exact ⟨rfl, rfl, rfl⟩
  case round =>
    obtain ⟨rfl, rfl, rfl⟩ := hrel
    have hb : Hid (Below wr.heap.size wr wr) := Lib.hid (Below.refl _ _)
    go_wp2_with fail
    refine (Sum_any _ _ _ [] _ (by omega) h).mono ?_
    rintro e w' ⟨rfl, rfl⟩
    rw [Hps.out, Hfs.out]
    have c1 := hb.out.alloc hb.out.size (.cells #[.int .i64 x] 2)
    have c2 := c1.alloc c1.size (.cells #[.int .i64 (-x)] 2)
    have c3 := hb.out.alloc hb.out.size (.cells #[.int .i64 (-x)] 2)
    have c4 := c3.alloc c3.size (.cells #[.int .i64 x] 2)
    clear neq
    by_cases ht : at_ < 0
    all_goals
      go_wp2_with fail
    all_goals
      clear t1 t2 ht
      have O1 := Lib.hid (row_drew (row_one_at wr wr.heap.size x hb.out.size _ rfl))
      have O2 := Lib.hid (row_drew (row_alloc (row_one_at wr wr.heap.size x hb.out.size _ rfl) (.cells #[.int .i64 (-x)] 2)))
      have O3 := Lib.hid (row_drew (row_one_at (wr.alloc (.cells #[.int .i64 (-x)] 2)) wr.heap.size x c3.size (wr.heap.size + 1) (by simp)))
      have D2 := Lib.hid (holds_drew (one_holds_at (wr.alloc (.cells #[.int .i64 x] 2)) (-x) ⟨by omega, by omega⟩ (wr.heap.size + 1) (by simp)))
      have D3 := Lib.hid (holds_drew (holds_alloc (one_holds_at wr (-x) ⟨by omega, by omega⟩ _ rfl) (.cells #[.int .i64 x] 2)))
      have S1 := Lib.hid (h.out.below c1.drew)
      have S2 := Lib.hid (h.out.below c2.drew)
      have S3 := Lib.hid (h.out.below c4.drew)
      have c1 := Lib.hid c1; have c2 := Lib.hid c2; have c4 := Lib.hid c4
      clear c3
      have hneg : IntKind.i64.wrap (-x) = -x := IntWalk.i64_in _ (by omega)
      go_region_held3 (fun _ => True) (trivial)
        ((first
          | (refine step_onto (w := (wr.alloc (.cells #[.int .i64 x] 2)).drew) (by rfl) (.tmp 60) (.tmp 63) _ (by rfl) wr.heap.size i0 Try.underlying22 hi0 hz0 hz1 hz2 (.slice (some ⟨wr.heap.size, 0, none⟩) 1 1) [x] (by rfl) O1.out none 0 0 [] (by rfl) S1.out (fun _ => rfl) (by first | (simp; done) | (simp; omega)) c1.out.drew.size ?_
             intro v1 w1 hown1 hgrow1 hat1
             have bel1 := Lib.hid (below_onto c1.out.drew O1.out hgrow1)
             have own1 := Lib.hid hown1
             clear hown1 hgrow1 hat1)
          | (refine step_onto (w := ((wr.alloc (.cells #[.int .i64 x] 2)).alloc (.cells #[.int .i64 (-x)] 2)).drew) (by rfl) (.tmp 60) (.tmp 63) _ (by rfl) wr.heap.size i0 Try.underlying22 hi0 hz0 hz1 hz2 (.slice (some ⟨wr.heap.size, 0, none⟩) 1 1) [x] (by rfl) O2.out none 0 0 [] (by rfl) S2.out (fun _ => rfl) (by first | (simp; done) | (simp; omega)) c2.out.drew.size ?_
             intro v1 w1 hown1 hgrow1 hat1
             have bel1 := Lib.hid (below_onto c2.out.drew O2.out hgrow1)
             have hB := Lib.hid (holds_grown D2.out hgrow1 (by simp [Value.ownBlock]))
             have own1 := Lib.hid hown1
             clear hown1 hgrow1 hat1)
          | (refine step_onto (w := ((wr.alloc (.cells #[.int .i64 (-x)] 2)).alloc (.cells #[.int .i64 x] 2)).drew) (by rfl) (.tmp 60) (.tmp 63) _ (by rfl) wr.heap.size i0 Try.underlying22 hi0 hz0 hz1 hz2 (.slice (some ⟨wr.heap.size + 1, 0, none⟩) 1 1) [x] (by rfl) O3.out none 0 0 [] (by rfl) S3.out (fun _ => rfl) (by first | (simp; done) | (simp; omega)) c4.out.drew.size ?_
             intro v1 w1 hown1 hgrow1 hat1
             have bel1 := Lib.hid (below_onto c4.out.drew O3.out hgrow1)
             have hB := Lib.hid (holds_grown D3.out hgrow1 (by simp [Value.ownBlock]))
             have own1 := Lib.hid hown1
             clear hown1 hgrow1 hat1)
          | (refine step_onto (w := w1) (by rfl) (.tmp 64) (.tmp 67) _ (by rfl) wr.heap.size i0 Try.underlying22 hi0 hz0 hz1 hz2 v1 _ (by rfl) own1.out _ 1 1 [-x] (by rfl) hB.out (fun e => by cases e) (by first | (simp; done) | (simp; omega)) bel1.out.size ?_
             intro v2 w2 hown2 hgrow2 hat2
             have bel2 := Lib.hid (below_onto bel1.out own1.out hgrow2)
             have own2 := Lib.hid hown2
             clear hown2 hgrow2 hat2)
          | (refine step_onto (w := w1.alloc (.cells #[.int .i64 (-x)] 2)) (by rfl) (.tmp 64) (.tmp 67) _ (by rfl) wr.heap.size i0 Try.underlying22 hi0 hz0 hz1 hz2 v1 _ (by rfl) (row_alloc own1.out _) (some ⟨w1.heap.size, 0, none⟩) 1 1 [-x] (by rfl) (one_holds_at w1 (-x) ⟨by omega, by omega⟩ _ rfl) (fun e => by cases e) (by first | (simp; done) | (simp; omega)) (bel1.out.alloc bel1.out.size _).size ?_
             intro v2 w2 hown2 hgrow2 hat2
             have bel2 := Lib.hid (below_onto (bel1.out.alloc bel1.out.size _) (row_alloc own1.out _) hgrow2)
             have own2 := Lib.hid hown2
             clear hown2 hgrow2 hat2)
          | (refine step_onto (w := w2) (by rfl) (.tmp 68) (.tmp 71) _ (by rfl) wr.heap.size i0 Try.underlying22 hi0 hz0 hz1 hz2 v2 _ (by rfl) own2.out none 0 0 [] (by rfl) (holds_none w2 none) (fun _ => rfl) (by first | (simp; done) | (simp; omega)) bel2.out.size ?_
             intro v3 w3 hown3 hgrow3 hat3
             have bel3 := Lib.hid (below_onto bel2.out own2.out hgrow3)
             have own3 := Lib.hid hown3
             clear hown3 hgrow3 hat3)))
      all_goals
        clear hneg
        obtain ⟨A3, cap3, rfl, hh3, _, _⟩ := row_holds own3.out (fun y hy => mem_more (x := x) (l := []) (k := 0) hy ⟨⟨by omega, by omega⟩, ⟨by omega, by omega⟩⟩ (by simp))
        have hh3 := Lib.hid hh3
        have len3 : (([x] ++ [] ++ [-x] ++ []).length : Nat) ≤ 1000 := by simp
        have len3 := Lib.hid len3
        have sum3 := Lib.hid (sum_more x [] 0)
        have sum3 : Hid (sumL ([x] ++ [] ++ [-x] ++ []) = sumL []) := sum3
        clear own3
        generalize [x] ++ [] ++ [-x] ++ [] = more at *
        go_wp2_with fail
        refine (Sum_any _ _ _ more _ (by have := len3.out; omega) hh3).mono ?_
        rintro e w' ⟨rfl, rfl⟩
        rw [sum3.out, Hps.out, Hfs.out]
        clear sum3 len3 hh3
        go_wp2_with (go_at_call 15; refine (Known_any _).mono ?_; rintro e w' ⟨rfl, n5, rfl⟩)
        go_ret
        exact ⟨rfl, below_drewN bel3.out n5⟩
end Go.Proofs.Ytaoicdpjnlcngaa
