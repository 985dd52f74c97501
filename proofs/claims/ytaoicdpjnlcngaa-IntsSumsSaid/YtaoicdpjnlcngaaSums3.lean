/-
  The walk of the law IntsSums, the place 0 or more, room behind it.
-/
import Derived.Test.YtaoicdpjnlcngaaSumsPlain
namespace Go.Proofs.Ytaoicdpjnlcngaa
open Go.RowKit
set_option linter.unusedVariables false

set_option maxRecDepth 100000 in
set_option maxHeartbeats 4000000 in
theorem Sums_pos_part (l : List Int) (ad : Addr) (n cap k : Nat) (x at_ : Int) (w : World) (n1 : n ≤ cap) (n2 : cap ≤ 9223372036854775807) (n3 : n ≤ 100) (h : Hid (Holds w (some ad) n l)) (hk : k ≤ n)
    (x1 : -9223372036854775807 ≤ x) (x2 : x ≤ 9223372036854775807) (t1 : -9223372036854775808 ≤ at_) (t2 : at_ ≤ 9223372036854775807) (ht : ¬ at_ < 0) (Hk : Hid (at_ % (↑n + 1) = (k : Int))) (hfull : ¬ cap = k) :
    Calls Try.prog 7 #[.slice (some ad) n cap, .int .i64 x, .int .i64 at_] w (fun e w' => e = .returned (.bool true) ∧ Below w.heap.size w w') := by
  obtain ⟨i0, hi0, hz0, hz1, hz2⟩ := info_parts int_info
  have hl := Lib.hid h.out.1
  have Hx := Lib.hid h.out.2.1
  have neq : (x == -9223372036854775808) = false := beq_eq_false_iff_ne.2 (by omega)
  go_enter Try.func7, Try.ntmps7
  go_wp2_with fail
  refine (Sum_any _ _ _ l _ (by omega) h).mono ?_
  rintro e w' ⟨rfl, rfl⟩
  obtain ⟨ps, hps⟩ : ∃ ps, pick (sumL l) = ps := ⟨_, rfl⟩
  obtain ⟨fs, hfs⟩ : ∃ fs, fitB (sumL l) = fs := ⟨_, rfl⟩
  rw [hps, hfs]
  have Hps := Lib.hid hps
  have Hfs := Lib.hid hfs
  clear hps hfs
  go_wp2_with fail
  go_loopw [9, 10] (fun v i wr => ∃ j : Nat, j ≤ n ∧ i = .int .i64 ((j : Int) - 1) ∧ Row wr w.heap.size v (l.drop j).reverse ∧ Hid (Below w.heap.size w wr)) (fun _ i _ => (intOf i + 1).toNat)
  case atStart => exact ⟨n, Nat.le_refl _, rfl, by rw [List.drop_of_length_le (by rw [hl.out]; omega)]; exact row_nil _ _, Lib.hid (Below.refl _ _)⟩
  case round =>
    obtain ⟨j, hj, rfl, hrow, hb⟩ := hrel
    by_cases hpos : 0 < j
    · obtain ⟨m, rfl⟩ : ∃ m, j = m + 1 := ⟨j - 1, by omega⟩
      obtain ⟨b, off, hAd, hc⟩ := (h.out.below hb.out).2.2 (by omega)
      injection hAd with hAd
      subst hAd
      have hcell := hc m (by omega)
      clear hc
      have hstep := rev_step l m (by rw [hl.out]; omega)
      have Hy := Lib.hid (Hx.out _ (getD_mem (k := m) (by rw [hl.out]; omega)))
      generalize l.getD m 0 = y at *
      have hrow := Lib.hid hrow
      have hstep := Lib.hid hstep
      go_wp2_with (at_builtin; refine Classical.byContradiction fun hnot => ?_)
      refine hnot ?_
      refine wpList_onto (by rfl) (.tmp 37) (.tmp 42) _ (by rfl) w.heap.size i0 Try.underlying22 hi0 hz0 hz1 hz2 u9 (l.drop (m + 1)).reverse (by rfl) (row_alloc hrow.out _) (some ⟨wr.heap.size, 0, none⟩) 1 1 [y] (by rfl) (one_holds wr y Hy.out) (fun e => by cases e) ?hlen ?hbase ?_
      case hlen => have := hl.out; simp; omega
      case hbase => have := hb.out.size; simp; omega
      clear hnot
      intro v1 w1 hown1 hgrow1 _hat1
      have hb1 := Lib.hid (below_onto (hb.out.alloc hb.out.size _) (row_alloc hrow.out _) hgrow1)
      rw [← hstep.out] at hown1
      have hown1 := Lib.hid hown1
      clear hgrow1 _hat1
      go_wp2
      go_roundw
      case rel => exact ⟨m, by omega, congrArg (Value.int .i64) (by omega), hown1.out, hb1⟩
      case measure => simp [intOf]
    · obtain rfl : j = 0 := by omega
      have hs := sumL_rev l
      rw [List.drop_zero] at hrow
      obtain ⟨A2, cap2, rfl, hh, _, hm2⟩ := row_holds hrow (fun y hy => Hx.out y (List.mem_reverse.1 hy))
      rw [List.length_reverse, hl.out] at hh
      have hrow := Lib.hid hrow
      have hh := Lib.hid hh
      have hs := Lib.hid hs
      go_wp2_with fail
      rw [List.length_reverse, hl.out]
      refine (Sum_any _ _ _ l.reverse _ (by omega) hh).mono ?_
      rintro e w' ⟨rfl, rfl⟩
      rw [hs.out, Hps.out, Hfs.out]
      clear hrow hh hm2 hs
      have k1 : (0 : Int) ≤ (k : Int) := by omega
      have k2 : (k : Int) ≤ (n : Int) := by omega
      have k3 : (n : Int) ≤ (cap : Int) := by omega
      have k4 : (k : Int) ≤ (cap : Int) := by omega
      have c1 := hb.out.alloc hb.out.size (.cells #[.int .i64 x] 2)
      have c2 := c1.alloc c1.size (.cells #[.int .i64 (-x)] 2)
      have c3 := hb.out.alloc hb.out.size (.cells #[.int .i64 (-x)] 2)
      have c4 := c3.alloc c3.size (.cells #[.int .i64 x] 2)
      have hl' := hl.out
      clear neq
      go_wp2_with fail
      rw [Hk.out]
      clear t1 t2 ht Hk
      have O1 := Lib.hid (row_drew (row_one_at wr w.heap.size x hb.out.size _ rfl))
      have O2 := Lib.hid (row_drew (row_alloc (row_one_at wr w.heap.size x hb.out.size _ rfl) (.cells #[.int .i64 (-x)] 2)))
      have O3 := Lib.hid (row_drew (row_one_at (wr.alloc (.cells #[.int .i64 (-x)] 2)) w.heap.size x c3.size (wr.heap.size + 1) (by simp)))
      have D2 := Lib.hid (holds_drew (one_holds_at (wr.alloc (.cells #[.int .i64 x] 2)) (-x) ⟨by omega, by omega⟩ (wr.heap.size + 1) (by simp)))
      have D3 := Lib.hid (holds_drew (holds_alloc (one_holds_at wr (-x) ⟨by omega, by omega⟩ _ rfl) (.cells #[.int .i64 x] 2)))
      have S1 := Lib.hid ((holds_take h.out hk).below c1.drew)
      have S2 := Lib.hid ((holds_take h.out hk).below c2.drew)
      have S3 := Lib.hid ((holds_take h.out hk).below c4.drew)
      have c1 := Lib.hid c1; have c2 := Lib.hid c2; have c4 := Lib.hid c4
      clear c3
      have hneg : IntKind.i64.wrap (-x) = -x := IntWalk.i64_in _ (by omega)
      go_region_held3 (fun _ => True) (trivial)
        ((first
          | (refine step_onto (w := (wr.alloc (.cells #[.int .i64 x] 2)).drew) (by rfl) (.tmp 60) (.tmp 63) _ (by rfl) w.heap.size i0 Try.underlying22 hi0 hz0 hz1 hz2 (.slice (some ⟨wr.heap.size, 0, none⟩) 1 1) [x] (by rfl) O1.out (some ad) k cap (l.take k) (by rfl) S1.out (fun e => by cases e) (by simp; omega) c1.out.drew.size ?_
             intro v1 w1 hown1 hgrow1 hat1
             have bel1 := Lib.hid (below_onto c1.out.drew O1.out hgrow1)
             have own1 := Lib.hid hown1
             clear hown1 hgrow1 hat1)
          | (refine step_onto (w := ((wr.alloc (.cells #[.int .i64 x] 2)).alloc (.cells #[.int .i64 (-x)] 2)).drew) (by rfl) (.tmp 60) (.tmp 63) _ (by rfl) w.heap.size i0 Try.underlying22 hi0 hz0 hz1 hz2 (.slice (some ⟨wr.heap.size, 0, none⟩) 1 1) [x] (by rfl) O2.out (some ad) k cap (l.take k) (by rfl) S2.out (fun e => by cases e) (by simp; omega) c2.out.drew.size ?_
             intro v1 w1 hown1 hgrow1 hat1
             have bel1 := Lib.hid (below_onto c2.out.drew O2.out hgrow1)
             have hB := Lib.hid (holds_grown D2.out hgrow1 (by simp [Value.ownBlock]))
             have own1 := Lib.hid hown1
             clear hown1 hgrow1 hat1)
          | (refine step_onto (w := ((wr.alloc (.cells #[.int .i64 (-x)] 2)).alloc (.cells #[.int .i64 x] 2)).drew) (by rfl) (.tmp 60) (.tmp 63) _ (by rfl) w.heap.size i0 Try.underlying22 hi0 hz0 hz1 hz2 (.slice (some ⟨wr.heap.size + 1, 0, none⟩) 1 1) [x] (by rfl) O3.out (some ad) k cap (l.take k) (by rfl) S3.out (fun e => by cases e) (by simp; omega) c4.out.drew.size ?_
             intro v1 w1 hown1 hgrow1 hat1
             have bel1 := Lib.hid (below_onto c4.out.drew O3.out hgrow1)
             have hB := Lib.hid (holds_grown D3.out hgrow1 (by simp [Value.ownBlock]))
             have own1 := Lib.hid hown1
             clear hown1 hgrow1 hat1)
          | (refine step_onto (w := w1) (by rfl) (.tmp 64) (.tmp 67) _ (by rfl) w.heap.size i0 Try.underlying22 hi0 hz0 hz1 hz2 v1 _ (by rfl) own1.out _ 1 1 [-x] (by rfl) hB.out (fun e => by cases e) (by simp; omega) bel1.out.size ?_
             intro v2 w2 hown2 hgrow2 hat2
             have bel2 := Lib.hid (below_onto bel1.out own1.out hgrow2)
             have own2 := Lib.hid hown2
             clear hown2 hgrow2 hat2)
          | (refine step_onto (w := w1.alloc (.cells #[.int .i64 (-x)] 2)) (by rfl) (.tmp 64) (.tmp 67) _ (by rfl) w.heap.size i0 Try.underlying22 hi0 hz0 hz1 hz2 v1 _ (by rfl) (row_alloc own1.out _) (some ⟨w1.heap.size, 0, none⟩) 1 1 [-x] (by rfl) (one_holds_at w1 (-x) ⟨by omega, by omega⟩ _ rfl) (fun e => by cases e) (by simp; omega) (bel1.out.alloc bel1.out.size _).size ?_
             intro v2 w2 hown2 hgrow2 hat2
             have bel2 := Lib.hid (below_onto (bel1.out.alloc bel1.out.size _) (row_alloc own1.out _) hgrow2)
             have own2 := Lib.hid hown2
             clear hown2 hgrow2 hat2)
          | (refine step_onto (w := w2) (by rfl) (.tmp 68) (.tmp 71) _ (by rfl) w.heap.size i0 Try.underlying22 hi0 hz0 hz1 hz2 v2 _ (by rfl) own2.out (some (ad.add k)) (n - k) (cap - k) (l.drop k) (by rfl) ((holds_drop h.out hk).below bel2.out) (fun e => by cases e) (by simp; omega) bel2.out.size ?_
             intro v3 w3 hown3 hgrow3 hat3
             have bel3 := Lib.hid (below_onto bel2.out own2.out hgrow3)
             have own3 := Lib.hid hown3
             clear hown3 hgrow3 hat3)))
      all_goals
        clear hneg
        obtain ⟨A3, cap3, rfl, hh3, _, _⟩ := row_holds own3.out (fun y hy => mem_more (x := x) (l := l) (k := k) hy ⟨⟨by omega, by omega⟩, ⟨by omega, by omega⟩⟩ Hx.out)
        have hh3 := Lib.hid hh3
        have len3 : (([x] ++ l.take k ++ [-x] ++ l.drop k).length : Nat) ≤ 1000 := by have := hl.out; simp; omega
        have len3 := Lib.hid len3
        have sum3 := Lib.hid (sum_more x l k)
        have sum3 : Hid (sumL ([x] ++ l.take k ++ [-x] ++ l.drop k) = sumL l) := sum3
        clear own3
        generalize [x] ++ l.take k ++ [-x] ++ l.drop k = more at *
        go_wp2_with fail
        refine (Sum_any _ _ _ more _ (by have := len3.out; omega) hh3).mono ?_
        rintro e w' ⟨rfl, rfl⟩
        rw [sum3.out, Hps.out, Hfs.out]
        clear sum3 len3 hh3
        go_wp2_with (go_at_call 15; refine (Known_any _).mono ?_; rintro e w' ⟨rfl, n5, rfl⟩)
        go_ret
        exact ⟨rfl, below_drewN bel3.out n5⟩
end Go.Proofs.Ytaoicdpjnlcngaa
