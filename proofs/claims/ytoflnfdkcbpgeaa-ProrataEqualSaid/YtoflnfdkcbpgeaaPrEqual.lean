/-
  The law ProrataEqual: its walk.
-/
import Derived.Test.YtoflnfdkcbpgeaaPrKnown
namespace Go.Proofs.Ytoflnfdkcbpgeaa
open Go.RowKit
set_option linter.unusedVariables false
set_option linter.unusedSimpArgs false

theorem sum_rep (n : Nat) (z : Int) : sumL (List.replicate n z) = z * n := by
  induction n with
  | zero => simp [sumL]
  | succ n ih => rw [List.replicate_succ, sumL, ih, show ((n + 1 : Nat) : Int) = (n : Int) + 1 by omega, Int.mul_add]; omega
theorem rep_mem {n : Nat} {z y : Int} (h : y ∈ List.replicate n z) : y = z := (List.mem_replicate.1 h).2
theorem rep_at {n : Nat} {z : Int} {i : Nat} (h : i < n) : (List.replicate n z).getD i 0 = z := by simp [List.getD, h]
theorem equal_right {z k : Int} {n : Nat} (z1 : 1 ≤ z) (z2 : z ≤ 1000) (n2 : n ≤ 40) (k0 : 0 ≤ k) (k1 : k ≤ z * n) : rightL (List.replicate n z) k = true :=
  (right_iff _ _).2 ⟨by simp; omega, fun x hx => by rw [rep_mem hx]; omega, k0, by rw [sum_rep]; exact k1⟩
theorem equal_quo {z k : Int} {n : Nat} (n1 : 1 ≤ n) (k0 : 0 ≤ k) (k1 : k ≤ z * n) : 0 ≤ k / (n : Int) ∧ k / (n : Int) ≤ z ∧ 0 ≤ k / (n : Int) * n ∧ k / (n : Int) * n ≤ k := by
  have a := Int.ediv_nonneg k0 (show (0 : Int) ≤ n by omega)
  refine ⟨a, Int.ediv_le_of_le_mul (by omega) k1, Int.mul_nonneg a (by omega), ?_⟩
  have e := Int.mul_ediv_add_emod k n
  have f := Int.emod_nonneg k (show (n : Int) ≠ 0 by omega)
  rw [Int.mul_comm]
  omega
theorem equal_by {z k : Int} {n : Nat} (z1 : 1 ≤ z) (n1 : 1 ≤ n) (k0 : 0 ≤ k) (k1 : k ≤ z * n) : byL (List.replicate n z) 1 k = List.replicate n (k / n) := by
  refine ext_getD (by rw [by_len]; simp) (fun i hi => ?_)
  rw [by_len] at hi
  have hi2 : i < n := by simpa using hi
  rw [by_get _ _ _ hi, rep_at hi2, rep_at hi2, sum_rep]
  have q : z * k / (z * n) = k / n := Int.mul_ediv_mul_of_pos _ _ (by omega)
  obtain ⟨a, -, -, -⟩ := equal_quo (z := z) n1 k0 k1
  rcases (show k / (n : Int) = 0 ∨ 1 ≤ k / (n : Int) by omega) with h | h
  · rw [byK_low (by rw [q]; exact h), h]
  · rw [byK_at (by rw [q]; exact h), q]
/-- Equal orders: each has the same by size, and the rest goes to the first. -/
theorem equal_facts {z k : Int} {n : Nat} (z1 : 1 ≤ z) (z2 : z ≤ 1000) (n1 : 1 ≤ n) (n2 : n ≤ 40) (k0 : 0 ≤ k) (k1 : k ≤ z * n) :
    ∃ F : List Int, F.length = n ∧ (plainL (List.replicate n z) 1 k).length = n ∧ (∀ i, i < n → (plainL (List.replicate n z) 1 k).getD i 0 = k / n + F.getD i 0) ∧
    (∀ i, i < n → F.getD i 0 = min (z - k / n) (k - k / n * n - sumL (F.take i))) ∧ ∀ i, 0 ≤ k - k / n * n - sumL (F.take i) := by
  have hR := equal_right z1 z2 n2 k0 k1
  obtain ⟨a, b, c, d⟩ := equal_quo (z := z) n1 k0 k1
  have hby := equal_by z1 n1 k0 k1
  have hsub : subZ (List.replicate n z) (List.replicate n (k / n)) = List.replicate n (z - k / n) := by
    refine ext_getD (by rw [subZ_len (by simp)]; simp) (fun i hi => ?_)
    rw [subZ_len (by simp)] at hi
    have hi2 : i < n := by simpa using hi
    rw [subZ_get (by simp) hi, rep_at hi2, rep_at hi2, rep_at hi2]
  have nn : ∀ x ∈ List.replicate n (z - k / n), 0 ≤ x := fun x hx => by rw [rep_mem hx]; omega
  rw [plain_yes hR (by omega)]
  have lf := fill_len (List.replicate n (z - k / n)) (k - k / n * n)
  rw [List.length_replicate] at lf
  refine ⟨fillL (List.replicate n (z - k / n)) (k - k / n * n), lf, by rw [plainB_len]; simp, fun i hi => ?_, fun i hi => ?_, fun i => ?_⟩
  · rw [plainB_get (by simpa using hi), hby, rep_at hi, hsub, sum_rep]
  · rw [fill_get _ _ i (by simpa using hi), rep_at hi]
  · rw [fill_sums _ _ i nn (by omega)]; omega
theorem equal_top {z k top most : Int} {n : Nat} (z1 : 1 ≤ z) (hm : 0 ≤ most) (k0 : 0 ≤ k) (h : most = 0 ∨ top < 0) : topL (List.replicate n z) top most 1 k = plainL (List.replicate n z) 1 k := by
  refine top_none hm ?_
  rcases h with rfl | h
  · have nn : ∀ x ∈ List.replicate n z, 0 ≤ x := fun x hx => by rw [rep_mem hx]; omega
    by_cases ht : 0 ≤ top ∧ top < ((List.replicate n z).length : Int)
    · obtain ⟨t, rfl⟩ := Int.eq_ofNat_of_zero_le ht.1
      have a := nonneg_get nn (show t < (List.replicate n z).length by omega)
      rw [topK_in (show t < (List.replicate n z).length by omega)]
      omega
    · exact topK_out ht
  · exact topK_out (by omega)
theorem equal_all {z : Int} {n : Nat} (z1 : 1 ≤ z) (z2 : z ≤ 1000) (n2 : n ≤ 40) : plainL (List.replicate n z) 1 (z * n) = List.replicate n z := by
  have e := sum_rep n z
  have := plain_all (l := List.replicate n z) (by rw [e]; exact equal_right z1 z2 n2 (Int.mul_nonneg (by omega) (by omega)) (Int.le_refl _))
  rw [e] at this
  exact this

set_option maxRecDepth 100000 in
set_option maxHeartbeats 3200000 in
theorem PEqual_walk (size count small : Int) (w : World) (a1 : -9223372036854775808 ≤ size) (a2 : size ≤ 9223372036854775807) (b1 : -9223372036854775808 ≤ count) (b2 : count ≤ 9223372036854775807) (s1 : -9223372036854775808 ≤ small) (s2 : small ≤ 9223372036854775807) :
    Calls Try.prog 6 #[.int .i64 size, .int .i64 count, .int .i64 small] w fun e w' => e = .returned (.bool true) ∧ Below w.heap.size w w' := by
  have hz1 := withinN_le size 999
  obtain ⟨zz, hzz⟩ : ∃ j, withinN size 999 = j := ⟨_, rfl⟩
  rw [hzz] at hz1
  replace hzz := Lib.hid hzz
  have hc1 := withinN_le count 39
  obtain ⟨c, hc⟩ : ∃ j, withinN count 39 = j := ⟨_, rfl⟩
  rw [hc] at hc1
  replace hc := Lib.hid hc
  obtain ⟨z, hZ⟩ : ∃ z : Int, 1 + (zz : Int) = z := ⟨_, rfl⟩
  obtain ⟨n, hN⟩ : ∃ n : Nat, 1 + (c : Int) = (n : Int) := ⟨c + 1, by omega⟩
  have z1 : 1 ≤ z := by omega
  have z2 : z ≤ 1000 := by omega
  have n1 : 1 ≤ n := by omega
  have n2 : n ≤ 40 := by omega
  have m1 := Int.mul_nonneg (show 0 ≤ z by omega) (show (0 : Int) ≤ n by omega)
  have m2 := Int.mul_le_mul z2 (show (n : Int) ≤ 40 by omega) (by omega) (by omega)
  obtain ⟨m, hm⟩ : ∃ m : Nat, z * (n : Int) = m := ⟨(z * n).toNat, by omega⟩
  have hk1 := withinN_le small m
  obtain ⟨k, hk⟩ : ∃ j, withinN small m = j := ⟨_, rfl⟩
  rw [hk] at hk1
  replace hk := Lib.hid hk
  have kz : (k : Int) ≤ z * n := by omega
  obtain ⟨F, lF, lX, fX, fF, f0⟩ := equal_facts (k := (k : Int)) z1 z2 n1 n2 (by omega) kz
  obtain ⟨y0, y1, p0, p1⟩ := equal_quo (z := z) (k := (k : Int)) n1 (by omega) kz
  have eT := equal_top (z := z) (n := n) (k := (k : Int)) (top := 0) (most := 0) z1 (by omega) (by omega) (.inl rfl)
  have eU := equal_top (z := z) (n := n) (k := (k : Int)) (top := -1) (most := 9) z1 (by omega) (by omega) (.inr (by omega))
  have eA := equal_all (z := z) (n := n) z1 z2 n2
  have iX := small_of (plain_mem (List.replicate n z) 1 (k : Int))
  have iS : ∀ x ∈ List.replicate n z, I64 x := fun x hx => by rw [rep_mem hx]; exact ⟨by omega, by omega⟩
  obtain ⟨y, hy⟩ : ∃ y, (k : Int) / (n : Int) = y := ⟨_, rfl⟩
  simp only [hy] at fX fF f0 y0 y1 p0 p1
  obtain ⟨P, hP⟩ : ∃ P, y * (n : Int) = P := ⟨_, rfl⟩
  simp only [hP] at fF f0 p0 p1
  rw [hm] at m1 m2 eA
  obtain ⟨r, hr⟩ : ∃ r, (k : Int) - P = r := ⟨_, rfl⟩
  simp only [hr] at fF f0
  have r0 : 0 ≤ r := by omega
  have r1 : r ≤ 40000 := by omega
  obtain ⟨X, hX⟩ : ∃ X, plainL (List.replicate n z) 1 (k : Int) = X := ⟨_, rfl⟩
  rw [hX] at lX iX eT eU
  simp only [hX] at fX
  have wm0 : wrap64 (z * (n : Int)) = (m : Int) := by rw [hm]; exact IntWalk.wrap64_in _ ⟨by omega, by omega⟩
  have wP0 : wrap64 (y * (n : Int)) = P := by rw [hP]; exact IntWalk.wrap64_in _ ⟨by omega, by omega⟩
  have wmH := Lib.hid wm0
  have wPH := Lib.hid wP0
  obtain ⟨d, hd⟩ : ∃ d, z - y = d := ⟨_, rfl⟩
  simp only [hd] at fF
  have d0 : 0 ≤ d := by omega
  have d1' : d ≤ 1000 := by omega
  have y2 : y ≤ 1000 := by omega
  have k40 : k ≤ 40000 := by omega
  have m40 : m ≤ 40000 := by omega
  clear wm0 wP0 kz
  replace hm := Lib.hid hm
  replace hy := Lib.hid hy
  replace hP := Lib.hid hP
  replace hr := Lib.hid hr
  replace hX := Lib.hid hX
  replace fX := Lib.hid fX
  replace fF := Lib.hid fF
  replace f0 := Lib.hid f0
  replace eT := Lib.hid eT
  replace eU := Lib.hid eU
  replace eA := Lib.hid eA
  replace iX := Lib.hid iX
  replace iS := Lib.hid iS
  replace hd := Lib.hid hd
  obtain ⟨i0, hi0, hy0, hy1, hy2⟩ := info_parts info_num
  have R0 := Lib.hid (row_nil w w.heap.size)
  have B := Lib.hid (Below.refl w.heap.size w)
  obtain ⟨g, hg⟩ : ∃ g, w.heap.size = g := ⟨_, rfl⟩
  rw [hg] at R0
  have B0 : Hid (Below g w w) := by rw [← hg]; exact B
  replace hg := Lib.hid hg
  have step : ∀ i : Nat, List.replicate (i + 1) z = List.replicate i z ++ [z] := fun i => List.replicate_succ'
  replace step := Lib.hid step
  go_enter Try.func6, Try.ntmps6
  have HS := Within_any size 999 w (by omega) a1 a2
  rw [hzz.out] at HS
  replace HS := Lib.hid HS
  go_wp2_with fail
  refine HS.out.mono ?_
  rintro e w ⟨rfl, rfl⟩
  clear HS
  have HS := Within_any count 39 w (by omega) b1 b2
  rw [hc.out] at HS
  replace HS := Lib.hid HS
  go_wp2_with fail
  refine HS.out.mono ?_
  rintro e w ⟨rfl, rfl⟩
  clear HS
  clear hz1 hc1
  go_wp2_with fail
  go_loopw [9, 10] (fun u i wr => ∃ (t : Nat), i = .int .i64 t ∧ t ≤ n ∧ Hid (Row wr g u (List.replicate t z)) ∧ Hid (Below g w wr)) (fun _ i _ => n - (intOf i).toNat)
  case atStart => exact ⟨0, rfl, by omega, by simpa using R0, B0⟩
  case round =>
    obtain ⟨t, rfl, ht, hR, hB⟩ := hrel
    by_cases hlt : t < n
    · have d1 : decide ((t : Int) < (n : Int)) = true := decide_eq_true (by omega)
      have hw : g ≤ wr.heap.size := by have q := hB.out.size; rw [hg.out] at q; exact q
      have h1 := one_lit wr z 2 (by omega) (by omega)
      have hb1 : g ≤ (wr.alloc (.cells #[.int .i64 z] 2)).heap.size := by simp; omega
      have ba := Lib.hid (hB.out.alloc hw (.cells #[.int .i64 z] 2))
      replace h1 := Lib.hid h1
      have lt := step.out t
      replace lt := Lib.hid lt
      go_wp2_with (at_builtin; refine wpList_onto (by rfl) (.tmp 28) (.tmp 30) 22 (by rfl) g i0 Try.underlying22 hi0 hy0 hy1 hy2 _ _ (by rfl) (hR.out.alloc _) _ 1 1 [z] (by rfl) h1.out (fun e => by cases e) (by simp; omega) hb1 ?_)
      intro v3 w3 r3 g3 o3
      rw [← lt.out] at r3
      have B3 := Lib.hid (ba.out.grown g3 hb1 (fun q hq => (Row.lt hR.out hq).1))
      replace r3 := Lib.hid r3
      clear g3 o3
      go_wp2_with fail
      go_roundw
      case rel => exact ⟨t + 1, by go_num, by omega, r3, B3⟩
      case measure => simp [intOf]; omega
    · obtain rfl : t = n := by omega
      have d1 : decide ((t : Int) < (t : Int)) = false := by simp
      obtain ⟨S, cs, rfl, h9, -, l9, m9, -⟩ := hR.out.slice iS.out
      rw [List.length_replicate] at h9 l9 ⊢
      replace h9 := Lib.hid h9
      have B' : Hid (Below w.heap.size w wr) := by rw [hg.out]; exact hB
      clear B
      have B := B'
      clear B' hR hB R0 B0 step
      have wm := wmH.out
      have HS := Within_any small m wr (by omega) s1 s2
      rw [hk.out] at HS
      replace HS := Lib.hid HS
      go_wp2_with fail
      refine HS.out.mono ?_
      rintro e wr ⟨rfl, rfl⟩
      clear HS
      have HS := PPlain_any S t cs (List.replicate t z) 1 (k : Int) wr (by omega) (by omega) (by omega) (by omega) (by omega) h9
      rw [hX.out] at HS
      replace HS := Lib.hid HS
      go_wp2_with fail
      refine HS.out.mono ?_
      rintro e w2 ⟨v, rfl, rr, bb⟩
      obtain ⟨A2, c2, rfl, h2, zA2, lA2, mA2, atA2⟩ := rr.slice iX.out
      rw [lX] at h2 lA2 ⊢
      replace h2 := Lib.hid h2
      replace h9 := Lib.hid (h9.out.below bb)
      replace B := Lib.hid (below_up B.out bb)
      clear HS rr bb atA2 zA2
      have dl : ((t : Int) != (t : Int)) = false := by simp
      clear wm
      go_wp2_with fail
      have q1 : wrap64 ((k : Int) / (t : Int)) = y := by rw [hy.out]; exact IntWalk.wrap64_in _ ⟨by omega, by omega⟩
      have q2 : wrap64 ((k : Int) - P) = r := by rw [hr.out]; exact IntWalk.wrap64_in _ ⟨by omega, by omega⟩
      rw [q1, wPH.out, q2]
      clear q1 q2 dl
      go_loopw [14, 15] (fun s i wr => ∃ (j : Nat) (m' : Int), s = .int .i64 m' ∧ i = .int .i64 j ∧ j ≤ t ∧ Hid (m' = r - sumL (F.take j)) ∧ wr = w2) (fun _ i _ => t - (intOf i).toNat)
      case atStart => exact ⟨0, r, rfl, rfl, by omega, Lib.hid (by simp [sumL]), rfl⟩
      case round =>
        obtain ⟨j, m', rfl, rfl, hj, hm', rfl⟩ := hrel
        rename World => w2
        by_cases hlj : j < t
        · have e1 := f0.out j
          rw [← hm'.out] at e1
          have e3 := sumL_take F j (by omega)
          have e4 := f0.out (j + 1)
          obtain ⟨ba, oa, rfl, ha⟩ := h2.out.2.2 (by omega)
          have c0 := ha j hlj
          rw [fX.out j hlj] at c0
          have e5 := fF.out j hlj
          rw [← hm'.out] at e5
          have e6 : m' ≤ r := by
            have := sum_nonneg (l := F.take j) (fun x hx => by
              obtain ⟨i2, hi2, e⟩ := mem_getD (List.mem_of_mem_take hx)
              have q1 := fF.out i2 (by omega)
              have q2 := f0.out i2
              omega)
            have := hm'.out
            omega
          clear ha
          generalize F.getD j 0 = f at *
          have dj : decide ((j : Int) < (t : Int)) = true := decide_eq_true (by omega)
          have dj2 : (j : Int) < (t : Int) := by omega
          rw [← hd.out] at e5
          have hnew : m' - f = r - sumL (F.take (j + 1)) := by rw [e3, hm'.out]; omega
          replace hnew := Lib.hid hnew
          by_cases hdm : m' < z - y
          · obtain rfl : f = m' := by omega
            have d2 : decide (f < z - y) = true := decide_eq_true hdm
            have wy : wrap64 (y + f) = y + f := IntWalk.wrap64_in _ ⟨by omega, by omega⟩
            have hne : (y + f != y + f) = false := by simp
            clear e3 e4 e5
            go_wp2_with fail
            go_roundw
            case rel => exact ⟨j + 1, f - f, by go_num, by go_num, by omega, hnew, by first | rfl | trivial⟩
            case measure => simp [intOf]; omega
          · have hf : f = z - y := by omega
            have d2 : decide (m' < z - y) = false := decide_eq_false hdm
            have wy : wrap64 (y + (z - y)) = y + (z - y) := IntWalk.wrap64_in _ ⟨by omega, by omega⟩
            have wl : wrap64 (m' - (z - y)) = m' - (z - y) := IntWalk.wrap64_in _ ⟨by omega, by omega⟩
            have hne : (y + f != y + (z - y)) = false := by rw [hf]; simp
            have hn2 : Hid (m' - (z - y) = r - sumL (F.take (j + 1))) := Lib.hid (by rw [← hnew.out]; omega)
            clear e3 e4 e5 hf hnew
            go_wp2_with fail
            go_roundw
            case rel => exact ⟨j + 1, m' - (z - y), by go_num, by go_num, by omega, hn2, by first | rfl | trivial⟩
            case measure => simp [intOf]; omega
        · have dj : decide ((j : Int) < (t : Int)) = false := decide_eq_false (by omega)
          have HS := PShare_any S t cs (List.replicate t z) 0 0 1 (k : Int) w2 (by omega) (by omega) (by omega) (by omega) (by omega) (by omega) (by omega) (by omega) (by omega) h9
          rw [eT.out] at HS
          replace HS := Lib.hid HS
          go_wp2_with fail
          refine HS.out.mono ?_
          rintro e w3 ⟨v, rfl, rr, bb⟩
          obtain ⟨A3, c3, rfl, h3, zA3, lA3, mA3, atA3⟩ := rr.slice iX.out
          rw [lX] at h3 lA3 ⊢
          replace h3 := Lib.hid h3
          replace h9 := Lib.hid (h9.out.below bb)
          replace h2 := Lib.hid (h2.out.below bb)
          replace B := Lib.hid (below_up B.out bb)
          clear HS rr bb atA3 zA3
          go_wp2_with fail
          refine (Same_yes A3 A2 t c3 c2 X w3 (by omega) h3 h2).mono ?_
          rintro e wx ⟨rfl, dd, rfl⟩
          replace h9 := Lib.hid (h9.out.drewN dd)
          replace h2 := Lib.hid (h2.out.drewN dd)
          replace B := Lib.hid (below_drewN B.out dd)
          obtain ⟨w4, hnw⟩ : ∃ wn, w3.drewN dd = wn := ⟨_, rfl⟩
          rw [hnw] at h9 h2 B ⊢
          clear hnw h3
          have HS := PShare_any S t cs (List.replicate t z) (-1) 9 1 (k : Int) w4 (by omega) (by omega) (by omega) (by omega) (by omega) (by omega) (by omega) (by omega) (by omega) h9
          rw [eU.out] at HS
          replace HS := Lib.hid HS
          go_wp2_with fail
          refine HS.out.mono ?_
          rintro e w5 ⟨v, rfl, rr, bb⟩
          obtain ⟨A5, c5, rfl, h5, zA5, lA5, mA5, atA5⟩ := rr.slice iX.out
          rw [lX] at h5 lA5 ⊢
          replace h5 := Lib.hid h5
          replace h9 := Lib.hid (h9.out.below bb)
          replace h2 := Lib.hid (h2.out.below bb)
          replace B := Lib.hid (below_up B.out bb)
          clear HS rr bb atA5 zA5
          go_wp2_with fail
          refine (Same_yes A5 A2 t c5 c2 X w5 (by omega) h5 h2).mono ?_
          rintro e wx ⟨rfl, dd, rfl⟩
          replace h9 := Lib.hid (h9.out.drewN dd)
          replace B := Lib.hid (below_drewN B.out dd)
          obtain ⟨w6, hnw⟩ : ∃ wn, w5.drewN dd = wn := ⟨_, rfl⟩
          rw [hnw] at h9 B ⊢
          clear hnw h5 h2
          have wm := wmH.out
          have HS := PPlain_any S t cs (List.replicate t z) 1 (m : Int) w6 (by omega) (by omega) (by omega) (by omega) (by omega) h9
          rw [eA.out] at HS
          replace HS := Lib.hid HS
          go_wp2_with fail
          refine HS.out.mono ?_
          rintro e w7 ⟨v, rfl, rr, bb⟩
          obtain ⟨A7, c7, rfl, h7, zA7, lA7, mA7, atA7⟩ := rr.slice iS.out
          rw [List.length_replicate] at h7 lA7 ⊢
          replace h7 := Lib.hid h7
          replace h9 := Lib.hid (h9.out.below bb)
          replace B := Lib.hid (below_up B.out bb)
          clear HS rr bb atA7 zA7
          go_wp2_with fail
          refine (Same_yes A7 S t c7 cs (List.replicate t z) w7 (by omega) h7 h9).mono ?_
          rintro e wx ⟨rfl, dd, rfl⟩
          replace h9 := Lib.hid (h9.out.drewN dd)
          replace B := Lib.hid (below_drewN B.out dd)
          obtain ⟨w8, hnw⟩ : ∃ wn, w7.drewN dd = wn := ⟨_, rfl⟩
          rw [hnw] at h9 B ⊢
          clear hnw h7
          go_wp2_with fail
          refine (Known_any _).mono ?_
          rintro e wz ⟨rfl, bz⟩
          replace B := Lib.hid (below_up B.out bz)
          clear bz
          go_wp2_with fail
          go_ret
          exact ⟨rfl, B.out⟩
end Go.Proofs.Ytoflnfdkcbpgeaa
