/-
  The law ProrataScale: its walk.
-/
import Derived.Test.YtoflnfdkcbpgeaaPrKnown
namespace Go.Proofs.Ytoflnfdkcbpgeaa
open Go.RowKit
set_option linter.unusedVariables false
set_option linter.unusedSimpArgs false

/-- The numbers that the law wants, thirty at most, and so many times as many. -/
def wantL (l : List Int) : List Int := (l.take 30).map (fun x => 1 + (withinN x 99 : Int))
def timesL (K : Int) (l : List Int) : List Int := l.map (fun x => K * x)
theorem want_len (l : List Int) : (wantL l).length = min 30 l.length := by simp [wantL]
theorem want_ok (l : List Int) : ∀ y ∈ wantL l, 1 ≤ y ∧ y ≤ 100 := by
  intro y hy
  obtain ⟨x, _, rfl⟩ := List.mem_map.1 hy
  have := withinN_le x 99
  omega
theorem want_next {l : List Int} {k : Nat} (hk : k < l.length) (h30 : k < 30) : (wantL l).take (k + 1) = (wantL l).take k ++ [1 + (withinN (l.getD k 0) 99 : Int)] := by
  have h2 : k < (wantL l).length := by rw [want_len]; omega
  rw [List.take_add_one, List.getElem?_eq_getElem h2, Option.toList_some]
  congr 2
  simp [wantL, List.getD, List.getElem?_eq_getElem hk]
theorem times_len (K : Int) (l : List Int) : (timesL K l).length = l.length := by simp [timesL]
theorem times_snoc (K : Int) (l : List Int) (x : Int) : timesL K (l ++ [x]) = timesL K l ++ [K * x] := by simp [timesL]
theorem times_sum (K : Int) (l : List Int) : sumL (timesL K l) = K * sumL l := by
  induction l with
  | nil => simp [timesL, sumL]
  | cons x l ih =>
    have e : timesL K (x :: l) = K * x :: timesL K l := rfl
    rw [e, sumL, sumL, ih, Int.mul_add]
theorem mul_small {a b m n : Int} (a0 : 0 ≤ a) (b0 : 0 ≤ b) (am : a ≤ m) (bn : b ≤ n) : 0 ≤ a * b ∧ a * b ≤ m * n := ⟨Int.mul_nonneg a0 b0, Int.mul_le_mul am bn b0 (by omega)⟩
theorem times_ok {K : Int} {l : List Int} (h1 : 2 ≤ K) (h2 : K ≤ 9) (h : ∀ y ∈ l, 1 ≤ y ∧ y ≤ 100) : ∀ y ∈ timesL K l, 1 ≤ y ∧ y ≤ 900 := by
  intro y hy
  obtain ⟨x, hx, rfl⟩ := List.mem_map.1 hy
  have hx2 := h x hx
  have a := (mul_small (a := K) (b := x) (m := 9) (n := 100) (by omega) (by omega) h2 hx2.2).2
  have b := Int.mul_le_mul (show (1 : Int) ≤ K by omega) hx2.1 (by omega) (by omega)
  omega
theorem scale_right {K : Int} {l : List Int} (h1 : 2 ≤ K) (h2 : K ≤ 9) (hl : l.length ≤ 30) (h : ∀ y ∈ l, 1 ≤ y ∧ y ≤ 100) : rightL (timesL K l) (sumL l) = true := by
  have s0 := sum_nonneg (l := l) (fun x hx => by have := h x hx; omega)
  refine (right_iff _ _).2 ⟨by rw [times_len]; omega, fun x hx => by have := times_ok h1 h2 h x hx; omega, s0, ?_⟩
  rw [times_sum]
  have := Int.mul_le_mul_of_nonneg_right (show (1 : Int) ≤ K by omega) s0
  omega
theorem scale_by {K : Int} {l : List Int} (h1 : 2 ≤ K) (h : ∀ y ∈ l, 1 ≤ y ∧ y ≤ 100) : byL (timesL K l) 1 (sumL l) = l := by
  refine ext_getD (by rw [by_len, times_len]) (fun i hi => ?_)
  rw [by_len] at hi
  have hi2 : i < l.length := by rw [times_len] at hi; exact hi
  rw [by_get _ _ _ hi, times_sum]
  have e : (timesL K l).getD i 0 = K * l.getD i 0 := by simp [timesL, List.getD, List.getElem?_eq_getElem hi2]
  have a := h _ (getD_mem hi2)
  have b := sum_ge (fun x hx => by have := h x hx; omega) hi2
  have q : K * l.getD i 0 * sumL l / (K * sumL l) = l.getD i 0 := by
    rw [Int.mul_assoc, Int.mul_ediv_mul_of_pos _ _ (by omega), Int.mul_ediv_cancel _ (by omega)]
  rw [e, byK_at (by rw [q]; exact a.1), q]
/-- What divides evenly is shared evenly. -/
theorem scale_plain {K : Int} {l : List Int} (h1 : 2 ≤ K) (h2 : K ≤ 9) (hl : l.length ≤ 30) (h : ∀ y ∈ l, 1 ≤ y ∧ y ≤ 100) : plainL (timesL K l) 1 (sumL l) = l := by
  have hR := scale_right h1 h2 hl h
  obtain ⟨a1, a2, a3, a4⟩ := (right_iff _ _).1 hR
  rw [plain_yes hR (by omega)]
  exact plainB_even (fun x hx => by have := a2 x hx; omega) a4 a3 (scale_by h1 h) rfl
theorem topK_most {l : List Int} {top q : Int} (h : ∀ x ∈ l, 0 ≤ x) (hq : 0 ≤ q) : topK l top 0 q = 0 := by
  by_cases ht : 0 ≤ top ∧ top < (l.length : Int)
  · obtain ⟨t, rfl⟩ := Int.eq_ofNat_of_zero_le ht.1
    have a := nonneg_get h (show t < l.length by omega)
    rw [topK_in (show t < l.length by omega)]
    omega
  · exact topK_out ht
theorem scale_top {K : Int} {l : List Int} (top : Int) (h1 : 2 ≤ K) (h2 : K ≤ 9) (hl : l.length ≤ 30) (h : ∀ y ∈ l, 1 ≤ y ∧ y ≤ 100) : topL (timesL K l) top 0 1 (sumL l) = l := by
  rw [top_none (by omega) (topK_most (fun x hx => by have := times_ok h1 h2 h x hx; omega) (sum_nonneg (fun x hx => by have := h x hx; omega)))]
  exact scale_plain h1 h2 hl h
attribute [irreducible] wantL timesL

set_option maxRecDepth 100000 in
set_option maxHeartbeats 3200000 in
theorem PScale_walk (A : Option Addr) (n cap : Nat) (xs : List Int) (times top : Int) (w : World) (hn : n ≤ 9223372036854775807) (hcap : n ≤ cap) (s1 : -9223372036854775808 ≤ times) (s2 : times ≤ 9223372036854775807) (t1 : -9223372036854775808 ≤ top) (t2 : top ≤ 9223372036854775807) (h : Hid (Holds w A n xs)) :
    Calls Try.prog 7 #[.slice A n cap, .int .i64 times, .int .i64 top] w fun e w' => e = .returned (.bool true) ∧ Below w.heap.size w w' := by
  have hlen := h.out.1
  have hj1 := withinN_le times 7
  obtain ⟨j, hj⟩ : ∃ j, withinN times 7 = j := ⟨_, rfl⟩
  rw [hj] at hj1
  replace hj := Lib.hid hj
  have ht1 := withinN_le top 40
  obtain ⟨t, ht⟩ : ∃ t, withinN top 40 = t := ⟨_, rfl⟩
  rw [ht] at ht1
  replace ht := Lib.hid ht
  have okF := want_ok xs
  have lF := want_len xs
  have nxt : ∀ k, k < n → k < 30 → (wantL xs).take (k + 1) = (wantL xs).take k ++ [1 + (withinN (xs.getD k 0) 99 : Int)] := fun k a b => want_next (by omega) b
  obtain ⟨F, hF⟩ : ∃ F, wantL xs = F := ⟨_, rfl⟩
  rw [hF] at okF lF
  simp only [hF] at nxt
  rw [hlen] at lF
  have nx2 : ∀ k, k < n → k < 30 → timesL (2 + (j : Int)) (F.take (k + 1)) = timesL (2 + (j : Int)) (F.take k) ++ [(2 + (j : Int)) * (1 + (withinN (xs.getD k 0) 99 : Int))] := fun k a b => by rw [nxt k a b, times_snoc]
  have few : ∀ k, (F.take k).length ≤ 250 ∧ (timesL (2 + (j : Int)) (F.take k)).length ≤ 250 := fun k => by rw [times_len, List.length_take]; omega
  have sF := sumL_bound F 1000000 (fun x hx => by have := okF x hx; omega)
  have pl := scale_plain (K := 2 + (j : Int)) (l := F) (by omega) (by omega) (by omega) okF
  have tp := scale_top (K := 2 + (j : Int)) (l := F) ((t : Int) - 1) (by omega) (by omega) (by omega) okF
  have okT := times_ok (K := 2 + (j : Int)) (by omega) (by omega) okF
  have iF := small_of (m := F) (fun x hx => by have := okF x hx; omega)
  have iT := small_of (m := timesL (2 + (j : Int)) F) (fun x hx => by have := okT x hx; omega)
  have okF0 : Hid (∀ x ∈ F, 0 ≤ x ∧ x ≤ 1000000) := Lib.hid (fun x hx => by have := okF x hx; omega)
  have lT := times_len (2 + (j : Int)) F
  obtain ⟨q, hq⟩ : ∃ q : Nat, sumL F = q := ⟨(sumL F).toNat, by omega⟩
  rw [hq] at pl tp sF
  have q250 : q ≤ 30000000 := by omega
  have l30 : F.length ≤ 30 := by omega
  replace nxt := Lib.hid nxt
  replace nx2 := Lib.hid nx2
  replace few := Lib.hid few
  replace pl := Lib.hid pl
  replace tp := Lib.hid tp
  replace hF := Lib.hid hF
  replace iF := Lib.hid iF
  replace iT := Lib.hid iT
  replace hq := Lib.hid hq
  replace lF := Lib.hid lF
  replace lT := Lib.hid lT
  have tz : Hid (timesL (2 + (j : Int)) [] = []) := Lib.hid (by with_unfolding_all rfl)
  clear okF okT sF
  obtain ⟨i0, hi0, hz0, hz1, hz2⟩ := info_parts info_num
  have R0 := Lib.hid (row_nil w w.heap.size)
  have B := Lib.hid (Below.refl w.heap.size w)
  obtain ⟨g, hg⟩ : ∃ g, w.heap.size = g := ⟨_, rfl⟩
  rw [hg] at R0
  have B0 : Hid (Below g w w) := by rw [← hg]; exact B
  replace hg := Lib.hid hg
  have D0 : Hid (∀ q, (Value.slice none 0 0).ownBlock = some q → (Value.slice none 0 0).ownBlock ≠ some q) := Lib.hid (fun q e => by cases e)
  go_enter Try.func7, Try.ntmps7
  have HS := Within_any times 7 w (by omega) s1 s2
  rw [hj.out] at HS
  replace HS := Lib.hid HS
  go_wp2_with fail
  refine HS.out.mono ?_
  rintro e w ⟨rfl, rfl⟩
  clear HS
  go_wp2_with fail
  go_loopw [8, 9, 10] (fun u v i wr => ∃ (k : Nat), i = .int .i64 k ∧ k ≤ n ∧ k ≤ 30 ∧ Hid (Row wr g u (timesL (2 + (j : Int)) (F.take k))) ∧ Hid (Row wr g v (F.take k)) ∧ Hid (∀ q, u.ownBlock = some q → v.ownBlock ≠ some q) ∧ Hid (Below g w wr)) (fun _ _ i _ => n - (intOf i).toNat)
  case atStart => exact ⟨0, rfl, by omega, by omega, by rw [List.take_zero, tz.out]; exact R0, by simpa using R0, D0, B0⟩
  case round =>
    obtain ⟨k, rfl, hk, hk2, hR, hV, hne, hB⟩ := hrel
    by_cases hlt : k < n
    · have d1 : decide ((k : Int) < (n : Int)) = true := decide_eq_true (by omega)
      have d1' : (k : Int) < (n : Int) := by omega
      by_cases h30 : k < 30
      · have d2 : decide ((k : Int) < 30) = true := decide_eq_true (by omega)
        have mk := nxt.out k hlt h30
        have mk2 := nx2.out k hlt h30
        have HW := h.out.below (hg.out ▸ hB.out)
        obtain ⟨b, off, rfl, hc⟩ := HW.2.2 (by omega)
        have hcell := hc k hlt
        have hw : g ≤ wr.heap.size := by have q := hB.out.size; rw [hg.out] at q; exact q
        obtain ⟨x1, x2⟩ := h.out.i64 hlt
        obtain ⟨fk, fk2⟩ := few.out k
        clear hc HW
        generalize xs.getD k 0 = x at *
        have hwi := Within_any x 99 wr (by omega) x1 x2
        have hwl := withinN_le x 99
        obtain ⟨y, hy⟩ : ∃ y, withinN x 99 = y := ⟨_, rfl⟩
        rw [hy] at hwi hwl mk mk2
        replace hwi := Lib.hid hwi
        replace mk := Lib.hid mk
        replace mk2 := Lib.hid mk2
        replace hy := Lib.hid hy
        obtain ⟨p1, p2⟩ := mul_small (a := 2 + (j : Int)) (b := 1 + (y : Int)) (m := 9) (n := 100) (by omega) (by omega) (by omega) (by omega)
        obtain ⟨P, hP⟩ : ∃ P, (2 + (j : Int)) * (1 + (y : Int)) = P := ⟨_, rfl⟩
        rw [hP] at p1 p2 
        replace mk2 := Lib.hid (hP ▸ mk2.out)
        replace hP := Lib.hid hP
        have h1 := one_lit wr P 2 (by omega) (by omega)
        have hb1 : g ≤ (wr.alloc (.cells #[.int .i64 P] 2)).heap.size := by simp; omega
        have ba := Lib.hid (hB.out.alloc hw (.cells #[.int .i64 P] 2))
        have hV1 := Lib.hid (hV.out.alloc (.cells #[.int .i64 P] 2))
        have hR1 := Lib.hid (hR.out.alloc (.cells #[.int .i64 P] 2))
        replace h1 := Lib.hid h1
        have f1 : (timesL (2 + (j : Int)) (F.take k)).length + 1 ≤ 1000000 := by omega
        have wm : wrap64 ((2 + (j : Int)) * (1 + (y : Int))) = P := by rw [hP.out]; exact IntWalk.wrap64_in _ ⟨by omega, by omega⟩
        go_wp2_with fail
        refine hwi.out.mono ?_
        rintro e w1 ⟨rfl, rfl⟩
        go_wp2_with (at_builtin; refine wpList_onto (by rfl) (.tmp 33) (.tmp 37) 22 (by rfl) g i0 Try.underlying22 hi0 hz0 hz1 hz2 _ _ (by rfl) hR1.out _ 1 1 [P] (by rfl) h1.out (fun e => by cases e) f1 hb1 ?_)
        intro v3 w3 r3 g3 o3
        clear wm p1 p2 f1
        rw [← mk2.out] at r3
        have B3 := Lib.hid (ba.out.grown g3 hb1 (fun q hq => (Row.lt hR.out hq).1))
        have V3 := Lib.hid (hV1.out.only (only_grown g3) (fun q hq e => hne.out q e.symm hq))
        have ne3 : Hid (∀ q, v3.ownBlock = some q → u9.ownBlock ≠ some q) := Lib.hid (fun q hq e => by
          rcases o3 with hh | hh
          · rw [hh] at hq; exact hne.out q hq e
          · rw [hh] at hq
            injection hq with hq
            have := (Row.lt hV1.out e).2
            (try simp only [World.size_alloc] at this)
            (try simp only [World.size_alloc] at hq)
            omega)
        replace r3 := Lib.hid r3
        clear g3 o3 h1 ba hb1
        have sz3 : g ≤ w3.heap.size := by have q := B3.out.size; rw [hg.out] at q; exact q
        have h2 := Lib.hid (one_lit w3 (1 + (y : Int)) 2 (by omega) (by omega))
        have hb2 : g ≤ (w3.alloc (.cells #[.int .i64 (1 + (y : Int))] 2)).heap.size := by simp; omega
        have bb := Lib.hid (B3.out.alloc sz3 (.cells #[.int .i64 (1 + (y : Int))] 2))
        have V4 := Lib.hid (V3.out.alloc (.cells #[.int .i64 (1 + (y : Int))] 2))
        have R4 := Lib.hid (r3.out.alloc (.cells #[.int .i64 (1 + (y : Int))] 2))
        go_wp2_with (at_builtin; refine wpList_onto (by rfl) (.tmp 39) (.tmp 41) 22 (by rfl) g i0 Try.underlying22 hi0 hz0 hz1 hz2 _ _ (by rfl) V4.out _ 1 1 [1 + (y : Int)] (by rfl) h2.out (fun e => by cases e) (by omega) hb2 ?_)
        intro v5 w5 r5 g5 o5
        rw [← mk.out] at r5
        have B5 := Lib.hid (bb.out.grown g5 hb2 (fun q hq => (Row.lt V3.out hq).1))
        have R5 := Lib.hid (R4.out.only (only_grown g5) (fun q hq e => ne3.out q hq e.symm))
        have ne5 : Hid (∀ q, v3.ownBlock = some q → v5.ownBlock ≠ some q) := Lib.hid (fun q hq e => by
          rcases o5 with hh | hh
          · rw [hh] at e; exact ne3.out q hq e
          · rw [hh] at e
            injection e with e
            have := (Row.lt R4.out hq).2
            (try simp only [World.size_alloc] at this)
            (try simp only [World.size_alloc] at e)
            omega)
        replace r5 := Lib.hid r5
        clear g5 o5
        go_wp2_with fail
        go_roundw
        case rel => exact ⟨k + 1, by go_num, by omega, by omega, R5, r5, ne5, B5⟩
        case measure => simp [intOf]; omega
      · have e30 : k = 30 := by omega
        have d2 : decide ((k : Int) < 30) = false := decide_eq_false (by omega)
        have et : F.take k = F := List.take_of_length_le (by have := lF.out; omega)
        rw [et] at hR hV
        replace et := Lib.hid et
        obtain ⟨S, cs, rfl, h8, -, l8, m8, -⟩ := hR.out.slice iT.out
        obtain ⟨V, cv, rfl, h9, -, l9, m9, -⟩ := hV.out.slice iF.out
        rw [lT.out] at h8 l8 ⊢
        obtain ⟨nf, hnf⟩ : ∃ nf, F.length = nf := ⟨_, rfl⟩
        rw [hnf] at h8 l8 h9 l9 l30 ⊢
        replace h8 := Lib.hid h8
        replace h9 := Lib.hid h9
        replace B := hB
        clear hR hV hne hB d1 R0 B0 D0
        have HS := LSum_any V nf cv F wr (by omega) h9 okF0
        rw [hq.out] at HS
        replace HS := Lib.hid HS
        go_wp2_with fail
        refine HS.out.mono ?_
        rintro e wr ⟨rfl, rfl⟩
        clear HS
        have HS := Within_any top 40 wr (by omega) t1 t2
        rw [ht.out] at HS
        replace HS := Lib.hid HS
        go_wp2_with fail
        refine HS.out.mono ?_
        rintro e wr ⟨rfl, rfl⟩
        clear HS
        have B' : Hid (Below w.heap.size w wr) := by rw [hg.out]; exact B
        clear B
        have B := B'
        clear B'
        have HS := PPlain_any S nf cs (timesL (2 + (j : Int)) F) 1 (q : Int) wr (by omega) (by omega) (by omega) (by omega) (by omega) h8
        rw [pl.out] at HS
        replace HS := Lib.hid HS
        go_wp2_with fail
        refine HS.out.mono ?_
        rintro e w3 ⟨v, rfl, rr, bb⟩
        obtain ⟨A3, c3, rfl, h3, zA3, lA3, mA3, atA3⟩ := rr.slice iF.out
        rw [hnf] at h3 lA3 ⊢
        replace h3 := Lib.hid h3
        replace h8 := Lib.hid (h8.out.below bb)
        replace h9 := Lib.hid (h9.out.below bb)
        replace B := Lib.hid (below_up B.out bb)
        clear HS rr bb atA3 zA3
        go_wp2_with fail
        refine (Same_yes A3 V nf c3 cv F w3 (by omega) h3 h9).mono ?_
        rintro e wx ⟨rfl, dd, rfl⟩
        replace h8 := Lib.hid (h8.out.drewN dd)
        replace h9 := Lib.hid (h9.out.drewN dd)
        replace B := Lib.hid (below_drewN B.out dd)
        obtain ⟨w4, hnw⟩ : ∃ wn, w3.drewN dd = wn := ⟨_, rfl⟩
        rw [hnw] at h8 h9 B ⊢
        clear hnw h3
        have HS := PShare_any S nf cs (timesL (2 + (j : Int)) F) ((t : Int) - 1) 0 1 (q : Int) w4 (by omega) (by omega) (by omega) (by omega) (by omega) (by omega) (by omega) (by omega) (by omega) h8
        rw [tp.out] at HS
        replace HS := Lib.hid HS
        go_wp2_with fail
        refine HS.out.mono ?_
        rintro e w5 ⟨v, rfl, rr, bb⟩
        obtain ⟨A5, c5, rfl, h5, zA5, lA5, mA5, atA5⟩ := rr.slice iF.out
        rw [hnf] at h5 lA5 ⊢
        replace h5 := Lib.hid h5
        replace h9 := Lib.hid (h9.out.below bb)
        replace B := Lib.hid (below_up B.out bb)
        clear h8 HS rr bb atA5 zA5
        go_wp2_with fail
        refine (Same_yes A5 V nf c5 cv F w5 (by omega) h5 h9).mono ?_
        rintro e wx ⟨rfl, dd, rfl⟩
        replace h9 := Lib.hid (h9.out.drewN dd)
        replace B := Lib.hid (below_drewN B.out dd)
        obtain ⟨w6, hnw⟩ : ∃ wn, w5.drewN dd = wn := ⟨_, rfl⟩
        rw [hnw] at h9 B ⊢
        clear hnw h5
        go_wp2_with fail
        refine (Known_any _).mono ?_
        rintro e wz ⟨rfl, bz⟩
        replace B := Lib.hid (below_up B.out bz)
        clear bz
        go_wp2_with fail
        go_ret
        exact ⟨rfl, B.out⟩
    · have ekn : k = n := by omega
      have d1 : decide ((k : Int) < (n : Int)) = false := decide_eq_false (by omega)
      have et : F.take k = F := List.take_of_length_le (by have := lF.out; omega)
      rw [et] at hR hV
      replace et := Lib.hid et
      obtain ⟨S, cs, rfl, h8, -, l8, m8, -⟩ := hR.out.slice iT.out
      obtain ⟨V, cv, rfl, h9, -, l9, m9, -⟩ := hV.out.slice iF.out
      rw [lT.out] at h8 l8 ⊢
      obtain ⟨nf, hnf⟩ : ∃ nf, F.length = nf := ⟨_, rfl⟩
      rw [hnf] at h8 l8 h9 l9 l30 ⊢
      replace h8 := Lib.hid h8
      replace h9 := Lib.hid h9
      replace B := hB
      clear hR hV hne hB d1 R0 B0 D0
      have HS := LSum_any V nf cv F wr (by omega) h9 okF0
      rw [hq.out] at HS
      replace HS := Lib.hid HS
      go_wp2_with fail
      refine HS.out.mono ?_
      rintro e wr ⟨rfl, rfl⟩
      clear HS
      have HS := Within_any top 40 wr (by omega) t1 t2
      rw [ht.out] at HS
      replace HS := Lib.hid HS
      go_wp2_with fail
      refine HS.out.mono ?_
      rintro e wr ⟨rfl, rfl⟩
      clear HS
      have B' : Hid (Below w.heap.size w wr) := by rw [hg.out]; exact B
      clear B
      have B := B'
      clear B'
      have HS := PPlain_any S nf cs (timesL (2 + (j : Int)) F) 1 (q : Int) wr (by omega) (by omega) (by omega) (by omega) (by omega) h8
      rw [pl.out] at HS
      replace HS := Lib.hid HS
      go_wp2_with fail
      refine HS.out.mono ?_
      rintro e w3 ⟨v, rfl, rr, bb⟩
      obtain ⟨A3, c3, rfl, h3, zA3, lA3, mA3, atA3⟩ := rr.slice iF.out
      rw [hnf] at h3 lA3 ⊢
      replace h3 := Lib.hid h3
      replace h8 := Lib.hid (h8.out.below bb)
      replace h9 := Lib.hid (h9.out.below bb)
      replace B := Lib.hid (below_up B.out bb)
      clear HS rr bb atA3 zA3
      go_wp2_with fail
      refine (Same_yes A3 V nf c3 cv F w3 (by omega) h3 h9).mono ?_
      rintro e wx ⟨rfl, dd, rfl⟩
      replace h8 := Lib.hid (h8.out.drewN dd)
      replace h9 := Lib.hid (h9.out.drewN dd)
      replace B := Lib.hid (below_drewN B.out dd)
      obtain ⟨w4, hnw⟩ : ∃ wn, w3.drewN dd = wn := ⟨_, rfl⟩
      rw [hnw] at h8 h9 B ⊢
      clear hnw h3
      have HS := PShare_any S nf cs (timesL (2 + (j : Int)) F) ((t : Int) - 1) 0 1 (q : Int) w4 (by omega) (by omega) (by omega) (by omega) (by omega) (by omega) (by omega) (by omega) (by omega) h8
      rw [tp.out] at HS
      replace HS := Lib.hid HS
      go_wp2_with fail
      refine HS.out.mono ?_
      rintro e w5 ⟨v, rfl, rr, bb⟩
      obtain ⟨A5, c5, rfl, h5, zA5, lA5, mA5, atA5⟩ := rr.slice iF.out
      rw [hnf] at h5 lA5 ⊢
      replace h5 := Lib.hid h5
      replace h9 := Lib.hid (h9.out.below bb)
      replace B := Lib.hid (below_up B.out bb)
      clear h8 HS rr bb atA5 zA5
      go_wp2_with fail
      refine (Same_yes A5 V nf c5 cv F w5 (by omega) h5 h9).mono ?_
      rintro e wx ⟨rfl, dd, rfl⟩
      replace h9 := Lib.hid (h9.out.drewN dd)
      replace B := Lib.hid (below_drewN B.out dd)
      obtain ⟨w6, hnw⟩ : ∃ wn, w5.drewN dd = wn := ⟨_, rfl⟩
      rw [hnw] at h9 B ⊢
      clear hnw h5
      go_wp2_with fail
      refine (Known_any _).mono ?_
      rintro e wz ⟨rfl, bz⟩
      replace B := Lib.hid (below_up B.out bz)
      clear bz
      go_wp2_with fail
      go_ret
      exact ⟨rfl, B.out⟩
end Go.Proofs.Ytoflnfdkcbpgeaa
