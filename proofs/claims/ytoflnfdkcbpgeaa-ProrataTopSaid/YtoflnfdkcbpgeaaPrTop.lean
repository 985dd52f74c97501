/-
  The law ProrataTop: its walk.
-/
import Derived.Test.YtoflnfdkcbpgeaaPrTopP
import Derived.Test.YtoflnfdkcbpgeaaNumInt
import Derived.StillTailTactics
namespace Go.Proofs.Ytoflnfdkcbpgeaa
open Go.RowKit
set_option linter.unusedVariables false
set_option linter.unusedSimpArgs false

set_option maxRecDepth 100000 in
set_option maxHeartbeats 6400000 in
theorem PTop_walk (A : Option Addr) (n cap : Nat) (xs : List Int) (top most small low : Int) (w : World) (hn : n ≤ 9223372036854775807) (hcap : n ≤ cap) (t1 : -9223372036854775808 ≤ top) (t2 : top ≤ 9223372036854775807) (o1 : -9223372036854775808 ≤ most) (o2 : most ≤ 9223372036854775807) (s1 : -9223372036854775808 ≤ small) (s2 : small ≤ 9223372036854775807) (u1 : -9223372036854775808 ≤ low) (u2 : low ≤ 9223372036854775807) (h : Hid (Holds w A n xs)) :
    Calls Try.prog 8 #[.slice A n cap, .int .i64 top, .int .i64 most, .int .i64 small, .int .i64 low] w fun e w' => e = .returned (.bool true) ∧ Below w.heap.size w w' := by
  obtain ⟨M, k, hM, hk, M1, k1, l40, hR⟩ := drawn_part xs small
  have okS := size_ok xs
  have HS0 := Sizes_any A n cap xs w hn h
  obtain ⟨S, hS⟩ : ∃ S, sizeL xs = S := ⟨_, rfl⟩
  rw [hS] at hM l40 okS HS0 hR
  replace hS := Lib.hid hS
  obtain ⟨ns, hns⟩ : ∃ ns, S.length = ns := ⟨_, rfl⟩
  rw [hns] at l40
  have hj1 := withinN_le low 9
  obtain ⟨j, hj⟩ : ∃ j, withinN low 9 = j := ⟨_, rfl⟩
  rw [hj] at hj1
  replace hj := Lib.hid hj
  have hm1 := withinN_le most 50
  obtain ⟨m, hm⟩ : ∃ j, withinN most 50 = j := ⟨_, rfl⟩
  rw [hm] at hm1
  replace hm := Lib.hid hm
  have parts := fun p K hp hK => top_parts (S := S) (p := p) (m := (m : Int)) (least := 1 + (j : Int)) (k := (k : Int)) (K := K) hR (by omega) (by omega) hp hK
  replace parts := Lib.hid parts
  have iS : ∀ x ∈ S, I64 x := fun x hx => by have := okS x hx; exact ⟨by omega, by omega⟩
  have okS0 : Hid (∀ x ∈ S, 0 ≤ x ∧ x ≤ 1000000) := Lib.hid (fun x hx => by have := okS x hx; omega)
  replace okS := Lib.hid okS
  replace iS := Lib.hid iS
  clear hR
  have k40 : k ≤ 40000000 := by omega
  have B := Lib.hid (Below.refl w.heap.size w)
  obtain ⟨i0, hi0, hy0, hy1, hy2⟩ := info_parts info_num
  obtain ⟨i1, hi1, hx0, hx1, hx2⟩ := info_parts info_int
  clear hcap
  go_enter Try.func8, Try.ntmps8
  have HS := HS0
  clear HS0 h
  replace HS := Lib.hid HS
  go_wp2_with fail
  refine HS.out.mono ?_
  rintro e w1 ⟨v, rfl, rr, bb⟩
  obtain ⟨A1, c1, rfl, h1, zA1, lA1, mA1, atA1⟩ := rr.slice iS.out
  rw [hns] at h1 lA1 ⊢
  replace h1 := Lib.hid h1
  replace B := Lib.hid (below_up B.out bb)
  replace atA1 := Lib.hid atA1
  replace rr := Lib.hid rr
  clear HS bb
  clear rr
  by_cases h0 : ns = 0
  · have dz : ((ns : Int) == 0) = true := by simp [h0]
    have dz2 : (ns == 0) = true := by simp [h0]
    go_wp2_with fail
    refine (Known_any _).mono ?_
    rintro e wz ⟨rfl, bz⟩
    replace B := Lib.hid (below_up B.out bz)
    clear bz
    go_wp2_with fail
    go_ret
    exact ⟨rfl, B.out⟩
  have dz : ((ns : Int) == 0) = false := by simp [h0]
  have dz2 : (ns == 0) = false := by simp [h0]
  obtain ⟨nl, hnl⟩ : ∃ nl : Nat, (ns : Int) - 1 = (nl : Int) := ⟨ns - 1, by omega⟩
  have ht1 := withinN_le top nl
  obtain ⟨p, hp⟩ : ∃ p, withinN top nl = p := ⟨_, rfl⟩
  rw [hp] at ht1
  replace hp := Lib.hid hp
  have pl : p < ns := by omega
  obtain ⟨x, hx⟩ : ∃ x, S.getD p 0 = x := ⟨_, rfl⟩
  have xb := okS.out _ (getD_mem (show p < S.length by omega))
  rw [hx] at xb
  obtain ⟨b1, o1', hA1, q1⟩ := h1.out.2.2 (by omega)
  have c1x := q1 p pl
  rw [hx] at c1x
  clear q1
  replace hA1 := Lib.hid hA1
  replace hx := Lib.hid hx
  clear h0
  have HS := LSum_any A1 ns c1 S w1 (by omega) h1 okS0
  rw [hM] at HS
  replace HS := Lib.hid HS
  go_wp2_with fail
  refine HS.out.mono ?_
  rintro e w1 ⟨rfl, rfl⟩
  clear HS
  have HS := Within_any small M w1 (by omega) s1 s2
  rw [hk] at HS
  replace HS := Lib.hid HS
  go_wp2_with fail
  refine HS.out.mono ?_
  rintro e w1 ⟨rfl, rfl⟩
  clear HS
  have HS := Within_any low 9 w1 (by omega) u1 u2
  rw [hj.out] at HS
  replace HS := Lib.hid HS
  go_wp2_with fail
  refine HS.out.mono ?_
  rintro e w1 ⟨rfl, rfl⟩
  clear HS
  have HS := Within_any top nl w1 (by omega) t1 t2
  rw [hp.out] at HS
  replace HS := Lib.hid HS
  go_wp2_with fail
  refine HS.out.mono ?_
  rintro e w1 ⟨rfl, rfl⟩
  clear HS
  have HS := Within_any most 50 w1 (by omega) o1 o2
  rw [hm.out] at HS
  replace HS := Lib.hid HS
  go_wp2_with fail
  refine HS.out.mono ?_
  rintro e w1 ⟨rfl, rfl⟩
  clear HS
  have dp : decide (p < ns) = true := decide_eq_true pl
  have dp2 : decide ((p : Int) < (ns : Int)) = true := decide_eq_true (by omega)
  have dp3 : (p : Int) < (ns : Int) := by omega
  have ltA : Hid (b1 < w1.heap.size) := Lib.hid (World.block_lt_of_cell? w1 _ c1x)
  obtain rfl := hA1.out
  clear hA1 atA1
  rcases (show (m ≤ k ∧ (m : Int) ≤ x) ∨ (m ≤ k ∧ x < (m : Int)) ∨ (k < m ∧ (k : Int) ≤ x) ∨ (k < m ∧ x < (k : Int)) by omega) with ⟨ca, cb⟩ | ⟨ca, cb⟩ | ⟨ca, cb⟩ | ⟨ca, cb⟩
  · have e1 : decide ((k : Int) < (m : Int)) = false := decide_eq_false (by omega)
    have e1' : decide (k < m) = false := decide_eq_false (by omega)
    have e2 : decide (x < (m : Int)) = false := decide_eq_false (by omega)
    obtain ⟨F, R, E, fF, lF, lR, rO, rP, pE, lE, okE, okL, lL0, okF, tZ, okZ⟩ := parts.out p (m : Int) (by rw [hns]; exact pl) (by rw [hx.out]; omega)
    rw [hns] at fF lF lR lL0
    rw [hx.out] at rP
    have kE : (k : Int) - (m : Int) = (k : Int) - (m : Int) := by omega
    rw [← kE] at pE
    clear kE ca cb
    have few : ∀ t, (posL (R.take t)).length ≤ 250 := fun t => by have := pos_len (R.take t); rw [List.length_take] at this; omega
    have iL : ∀ y ∈ posL R, I64 y := fun y hy => by have := okL y hy; exact ⟨by omega, by omega⟩
    have iE : ∀ y ∈ E, I64 y := fun y hy => by have := okE y hy; exact ⟨by omega, by omega⟩
    have iZ : ∀ y ∈ addZ F (spreadL R E), I64 y := fun y hy => by have := okZ y hy; exact ⟨by omega, by omega⟩
    have lZ : (addZ F (spreadL R E)).length = ns := by rw [addZ_len (by rw [spread_len]; omega)]; exact lF
    have sumA := fun P (hA : At R R.length P) j (hj : j < P.length) => hA.sum (E := E) (show F.length = R.length by omega) hj
    have doneA := fun P Y (hA : At R R.length P) hY => hA.done (Y := Y) (E := E) (show F.length = R.length by omega) hY
    rw [lR] at sumA doneA
    have pL0 := pos_none R
    have et : R.take ns = R := List.take_of_length_le (by omega)
    obtain ⟨Z, hZ⟩ : ∃ Z, addZ F (spreadL R E) = Z := ⟨_, rfl⟩
    simp only [hZ] at tZ okZ iZ lZ sumA doneA
    replace few := Lib.hid few
    replace iL := Lib.hid iL
    replace iE := Lib.hid iE
    replace iZ := Lib.hid iZ
    replace sumA := Lib.hid sumA
    replace doneA := Lib.hid doneA
    replace fF := Lib.hid fF
    replace rO := Lib.hid rO
    replace rP := Lib.hid rP
    replace pE := Lib.hid pE
    replace okE := Lib.hid okE
    replace okF := Lib.hid okF
    replace tZ := Lib.hid tZ
    replace hZ := Lib.hid hZ
    replace et := Lib.hid et
    replace pL0 := Lib.hid pL0
    clear okZ okL
    have R0 := Lib.hid (row_nil w1 w1.heap.size)
    have I0 := Lib.hid (ir_nil w1 w1.heap.size)
    have B0 := Lib.hid (Below.refl w1.heap.size w1)
    obtain ⟨g, hg⟩ : ∃ g, w1.heap.size = g := ⟨_, rfl⟩
    rw [hg] at R0 I0 B0
    have wg : w.heap.size ≤ g := by rw [← hg]; exact B.out.size
    have ltg : b1 < g := by rw [← hg]; exact ltA.out
    replace hg := Lib.hid hg
    have D0 : Hid (∀ q, (Value.slice none 0 0).ownBlock = some q → (Value.slice none 0 0).ownBlock ≠ some q) := Lib.hid (fun q e => by cases e)
    go_wp2_with fail
    clear c1x e1 e1' e2
    go_loopw [17, 18, 19] (fun u v i wr => ∃ (t : Nat) (P : List Nat), i = .int .i64 t ∧ t ≤ ns ∧ Hid (At R t P) ∧ Hid (Row wr g u (posL (R.take t))) ∧ Hid (IR wr g v P) ∧ Hid (∀ q, u.ownBlock = some q → v.ownBlock ≠ some q) ∧ Hid (Below g w1 wr)) (fun _ _ i _ => ns - (intOf i).toNat)
    case atStart => exact ⟨0, [], rfl, by omega, Lib.hid (at_nil R), by rw [pL0.out]; exact R0, I0, D0, B0⟩
    case round =>
      obtain ⟨t, P, rfl, ht, hAt, hL, hP, hne, hB⟩ := hrel
      have hw : g ≤ wr.heap.size := by have q := hB.out.size; rw [hg.out] at q; exact q
      by_cases hlt : t < ns
      · have d1 : decide ((t : Int) < (ns : Int)) = true := decide_eq_true (by omega)
        have d1' : decide (t < ns) = true := decide_eq_true hlt
        have d3 : (t : Int) < (ns : Int) := by omega
        have HW := h1.out.below (show Below w1.heap.size w1 wr by rw [hg.out]; exact hB.out)
        obtain ⟨b1', o1x, ea, q1⟩ := HW.2.2 (by omega)
        injection ea with ea
        injection ea with ea eb
        subst ea; subst eb
        have c1' := q1 t hlt
        have fk := few.out t
        have lP : P.length ≤ 250 := by rw [hAt.out.len]; exact fk
        have aTk := hAt.out.take (show t < R.length by omega)
        have aSk := hAt.out.skip (show t < R.length by omega)
        have mk := pos_more (r := R) (k := t) (by omega)
        have sk := pos_skip (r := R) (k := t) (by omega)
        clear HW q1
        by_cases htp : t = p
        · have dt : ((t : Int) == (p : Int)) = true := by simp [htp]
          have dt2 : (t == p) = true := by simp [htp]
          rw [htp, hx.out, ← htp] at c1'
          have rT := rP.out
          rw [← htp] at rT
          rw [rT] at aTk aSk mk sk
          clear htp rT
          by_cases hv : (m : Int) < x
          · have d4 : decide (0 < x - (m : Int)) = true := decide_eq_true (by omega)
            replace aTk := Lib.hid (aTk (by omega))
            replace mk := Lib.hid (mk (by omega))
            clear aSk sk
            have hz := one_lit wr (x - (m : Int)) 2 (by omega) (by omega)
            have hb1 : g ≤ (wr.alloc (.cells #[.int .i64 (x - (m : Int))] 2)).heap.size := by simp; omega
            have ba := Lib.hid (hB.out.alloc hw (.cells #[.int .i64 (x - (m : Int))] 2))
            have hP1 := Lib.hid (hP.out.alloc (.cells #[.int .i64 (x - (m : Int))] 2))
            have hL1 := Lib.hid (hL.out.alloc (.cells #[.int .i64 (x - (m : Int))] 2))
            replace hz := Lib.hid hz
            go_wp2_with (at_builtin; refine wpList_onto (by rfl) (.tmp 77) (.tmp 79) 22 (by rfl) g i0 Try.underlying22 hi0 hy0 hy1 hy2 _ _ (by rfl) hL1.out _ 1 1 [(x - (m : Int))] (by rfl) hz.out (fun e => by cases e) (by omega) hb1 ?_)
            intro v3 w3 r3 g3 o3
            rw [← mk.out] at r3
            have B3 := Lib.hid (ba.out.grown g3 hb1 (fun q hq => (Row.lt hL.out hq).1))
            have P3 := Lib.hid (hP1.out.only (only_grown g3) (fun q hq e => hne.out q e.symm hq))
            have ne3 : Hid (∀ q, v3.ownBlock = some q → u18.ownBlock ≠ some q) := Lib.hid (fun q hq e => by
              rcases o3 with hh | hh
              · rw [hh] at hq; exact hne.out q hq e
              · rw [hh] at hq
                injection hq with hq
                have := (IR.lt hP1.out e).2
                (try simp only [World.size_alloc] at this)
                (try simp only [World.size_alloc] at hq)
                omega)
            replace r3 := Lib.hid r3
            clear g3 o3 hz ba hb1
            have sz3 : g ≤ w3.heap.size := by have q := B3.out.size; rw [hg.out] at q; exact q
            have sz9 : g ≤ (w3.alloc (.cells #[.int .i64 (t : Int)] 3)).heap.size := by simp; omega
            have P9 := Lib.hid (P3.out.alloc (.cells #[.int .i64 (t : Int)] 3))
            have q9 : (w3.alloc (.cells #[.int .i64 (t : Int)] 3)).cell? ⟨w3.heap.size, 0, none⟩ = some (.int .i64 (t : Int)) := by simp
            have b9 := Lib.hid (B3.out.alloc sz3 (.cells #[.int .i64 (t : Int)] 3))
            have r9 := Lib.hid (r3.out.alloc (.cells #[.int .i64 (t : Int)] 3))
            go_wp2_with (at_builtin; refine wpList_onto_i (by rfl) (.tmp 81) (.tmp 83) 37 (by rfl) g i1 Try.underlying37 hi1 hx0 hx1 hx2 _ P (by rfl) P9.out ⟨w3.heap.size, 0, none⟩ 1 t (by rfl) q9 (by omega) sz9 ?_)
            intro v10 w10 r10 g10 o10
            have b10 := Lib.hid (b9.out.grown g10 sz9 (fun q hq => (P3.out.lt hq).1))
            have rr10 := Lib.hid (r9.out.only (only_grown g10) (fun q hq e => ne3.out q hq e.symm))
            have ne10 : Hid (∀ q, v3.ownBlock = some q → v10.ownBlock ≠ some q) := Lib.hid (fun q hq e => by
              rcases o10 with hh | hh
              · rw [hh] at e; exact ne3.out q hq e
              · rw [hh] at e
                injection e with e
                have := (Row.lt r9.out hq).2
                (try simp only [World.size_alloc] at this)
                (try simp only [World.size_alloc] at e)
                omega)
            replace r10 := Lib.hid r10
            clear g10 o10 q9 P9
            go_wp2_with fail
            go_roundw
            case rel => exact ⟨t + 1, P ++ [t], by go_num, by omega, aTk, rr10, r10, ne10, b10⟩
            case measure => simp [intOf]; omega
          · have d4 : decide (0 < x - (m : Int)) = false := decide_eq_false (by omega)
            replace aSk := Lib.hid (aSk (by omega))
            replace sk := Lib.hid (sk (by omega))
            clear aTk mk
            go_wp2_with fail
            go_roundw
            case rel => exact ⟨t + 1, P, by go_num, by omega, aSk, by rw [sk.out]; exact hL, hP, hne, hB⟩
            case measure => simp [intOf]; omega
        · have dt : ((t : Int) == (p : Int)) = false := by simp; omega
          have dt2 : (t == p) = false := by simp; omega
          have rT := rO.out t (by rw [hns]; exact hlt) htp
          have xb' := okS.out _ (getD_mem (show t < S.length by omega))
          rw [rT] at aTk aSk mk sk
          clear rT htp
          generalize S.getD t 0 = x' at *
          have d4 : decide (0 < x') = true := decide_eq_true (by omega)
          replace aTk := Lib.hid (aTk (by omega))
          replace mk := Lib.hid (mk (by omega))
          clear aSk sk
          have hz := one_lit wr x' 2 (by omega) (by omega)
          have hb1 : g ≤ (wr.alloc (.cells #[.int .i64 x'] 2)).heap.size := by simp; omega
          have ba := Lib.hid (hB.out.alloc hw (.cells #[.int .i64 x'] 2))
          have hP1 := Lib.hid (hP.out.alloc (.cells #[.int .i64 x'] 2))
          have hL1 := Lib.hid (hL.out.alloc (.cells #[.int .i64 x'] 2))
          replace hz := Lib.hid hz
          go_wp2_with (at_builtin; refine wpList_onto (by rfl) (.tmp 77) (.tmp 79) 22 (by rfl) g i0 Try.underlying22 hi0 hy0 hy1 hy2 _ _ (by rfl) hL1.out _ 1 1 [x'] (by rfl) hz.out (fun e => by cases e) (by omega) hb1 ?_)
          intro v3 w3 r3 g3 o3
          rw [← mk.out] at r3
          have B3 := Lib.hid (ba.out.grown g3 hb1 (fun q hq => (Row.lt hL.out hq).1))
          have P3 := Lib.hid (hP1.out.only (only_grown g3) (fun q hq e => hne.out q e.symm hq))
          have ne3 : Hid (∀ q, v3.ownBlock = some q → u18.ownBlock ≠ some q) := Lib.hid (fun q hq e => by
            rcases o3 with hh | hh
            · rw [hh] at hq; exact hne.out q hq e
            · rw [hh] at hq
              injection hq with hq
              have := (IR.lt hP1.out e).2
              (try simp only [World.size_alloc] at this)
              (try simp only [World.size_alloc] at hq)
              omega)
          replace r3 := Lib.hid r3
          clear g3 o3 hz ba hb1
          have sz3 : g ≤ w3.heap.size := by have q := B3.out.size; rw [hg.out] at q; exact q
          have sz9 : g ≤ (w3.alloc (.cells #[.int .i64 (t : Int)] 3)).heap.size := by simp; omega
          have P9 := Lib.hid (P3.out.alloc (.cells #[.int .i64 (t : Int)] 3))
          have q9 : (w3.alloc (.cells #[.int .i64 (t : Int)] 3)).cell? ⟨w3.heap.size, 0, none⟩ = some (.int .i64 (t : Int)) := by simp
          have b9 := Lib.hid (B3.out.alloc sz3 (.cells #[.int .i64 (t : Int)] 3))
          have r9 := Lib.hid (r3.out.alloc (.cells #[.int .i64 (t : Int)] 3))
          go_wp2_with (at_builtin; refine wpList_onto_i (by rfl) (.tmp 81) (.tmp 83) 37 (by rfl) g i1 Try.underlying37 hi1 hx0 hx1 hx2 _ P (by rfl) P9.out ⟨w3.heap.size, 0, none⟩ 1 t (by rfl) q9 (by omega) sz9 ?_)
          intro v10 w10 r10 g10 o10
          have b10 := Lib.hid (b9.out.grown g10 sz9 (fun q hq => (P3.out.lt hq).1))
          have rr10 := Lib.hid (r9.out.only (only_grown g10) (fun q hq e => ne3.out q hq e.symm))
          have ne10 : Hid (∀ q, v3.ownBlock = some q → v10.ownBlock ≠ some q) := Lib.hid (fun q hq e => by
            rcases o10 with hh | hh
            · rw [hh] at e; exact ne3.out q hq e
            · rw [hh] at e
              injection e with e
              have := (Row.lt r9.out hq).2
              (try simp only [World.size_alloc] at this)
              (try simp only [World.size_alloc] at e)
              omega)
          replace r10 := Lib.hid r10
          clear g10 o10 q9 P9
          go_wp2_with fail
          go_roundw
          case rel => exact ⟨t + 1, P ++ [t], by go_num, by omega, aTk, rr10, r10, ne10, b10⟩
          case measure => simp [intOf]; omega
      · have d1 : decide ((t : Int) < (ns : Int)) = false := decide_eq_false (by omega)
        have d1' : decide (t < ns) = false := decide_eq_false hlt
        have etn : t = ns := by omega
        rw [etn, et.out] at hL
        have hAt2 := hAt.out
        rw [etn] at hAt2
        have lP := hAt2.len
        rw [et.out] at lP
        obtain ⟨nq, hnq⟩ : ∃ nq, (posL R).length = nq := ⟨_, rfl⟩
        rw [hnq] at lP lE lL0
        have eachP : Hid (∀ j, j < nq → P.getD j 0 < ns) := Lib.hid (fun j hj => (hAt2.each j (by omega)).1)
        have injP : Hid (∀ i j, i < nq → j < nq → P.getD i 0 = P.getD j 0 → i = j) := Lib.hid (fun i j hi hj e => hAt2.inj (by omega) (by omega) e)
        have sumP := sumA.out P hAt2
        have doneP := fun Y => doneA.out P Y hAt2
        rw [lP] at sumP doneP
        replace sumP := Lib.hid sumP
        replace doneP := Lib.hid doneP
        obtain ⟨A17, c17, rfl, h17, -, l17, m17, at17⟩ := hL.out.slice iL.out
        obtain ⟨A18, c18, rfl, l18, m18, z18, k18⟩ := hP.out.slice
        rw [hnq] at h17 l17 ⊢
        rw [lP] at l18 k18 ⊢
        have own18 := fun q hq => hP.out.lt (k := q) hq
        replace own18 := Lib.hid own18
        replace h17 := Lib.hid h17
        replace at17 := Lib.hid at17
        replace hnq := Lib.hid hnq
        replace B := Lib.hid (B.out.trans (hB.out.mono wg))
        have h1r := Lib.hid (h1.out.below (show Below w1.heap.size w1 wr by rw [hg.out]; exact hB.out))
        clear h1
        have h1 := h1r
        clear h1r hAt hAt2 etn hL hne hB k18 sumA doneA few rO rP R0 I0 B0 D0 ht hlt
        go_wp2_with (at_make; refine wpList_make_full _ (by rfl) (.tmp 86) (.tmp 86) 22 (by rfl) wr.heap.size 2 i0 (.int .i64 0) 1 Try.underlying22 hi0 hy0 hy1 .i64 .i64 _ _ ns (by rfl) (by rfl) rfl rfl (by rw [hy2]; omega) (by unfold maxLen; omega) (Nat.le_refl _) ?_)
        intro w4 r4 g4
        have R4 := Lib.hid (row_made r4)
        have B4 : Hid (Below wr.heap.size wr w4) := Lib.hid ((Below.refl _ wr).grown g4 (Nat.le_refl _) (fun k e => by cases e))
        obtain ⟨gw, hgw⟩ : ∃ gw, wr.heap.size = gw := ⟨_, rfl⟩
        rw [hgw] at R4 B4
        have hw2 : g ≤ gw := by rw [← hgw]; exact hw
        obtain ⟨g', cap', e', -, hgl, hcc, hcm, hfz, hcl2⟩ := R4.out.open' (by simp; omega)
        rw [List.length_replicate] at e' hcl2
        injection e' with ex1 ex2 ex3
        injection ex1 with ex1
        injection ex1 with ex1
        subst ex1; subst ex3
        have hfk := hfz p
        have hck0 := hcl2 p pl
        have Rs := R4.out.set (k := p) (by simp; omega) (m : Int)
        rw [fF.out] at Rs
        replace Rs := Lib.hid Rs
        have Bs : Hid (Below gw wr (w4.setCell ⟨gw, p, none⟩ (.int .i64 (m : Int)))) := Lib.hid (B4.out.trans ((set_only w4 gw p (.int .i64 (m : Int))).below (B := gw) (by have q := B4.out.size; rw [hgw] at q; exact q) (fun j hj e => by omega)))
        have szs : gw < (w4.setCell ⟨gw, p, none⟩ (.int .i64 (m : Int))).heap.size := by simpa using hgl
        clear r4 g4 hfz hcl2 R4 B4
        go_wp2_with fail
        replace hgw := Lib.hid hgw
        (try rw [hgw.out])
        obtain ⟨w5, hw5⟩ : ∃ w5, w4.setCell ⟨gw, p, none⟩ (.int .i64 (m : Int)) = w5 := ⟨_, rfl⟩
        rw [hw5] at Rs Bs szs ⊢
        clear hw5 hfk hck0
        have Bs' : Below wr.heap.size wr w5 := by rw [hgw.out]; exact Bs.out
        have h15 := Lib.hid (h1.out.below Bs')
        have h175 := Lib.hid (h17.out.below Bs')
        have hP5 := Lib.hid (hP.out.below Bs')
        replace B := Lib.hid (below_up B.out Bs')
        clear h1 h17 hP Bs Bs'
        have HS := PPlain_any A17 nq c17 (posL R) (1 + (j : Int)) ((k : Int) - (m : Int)) w5 (by omega) (by omega) (by omega) (by omega) (by omega) h175
        rw [pE.out] at HS
        replace HS := Lib.hid HS
        refine HS.out.mono ?_
        rintro e w6 ⟨v, rfl, rr, bb⟩
        obtain ⟨A22, c22, rfl, h22, z22, l22, m22, at22⟩ := rr.slice iE.out
        rw [lE] at h22 l22 ⊢
        have h16 := Lib.hid (h15.out.below bb)
        have hP6 := Lib.hid (hP5.out.below bb)
        have Rs6 := Lib.hid (Rs.out.below bb)
        replace B := Lib.hid (below_up B.out bb)
        replace h22 := Lib.hid h22
        have at22' : Hid (∀ ad, A22 = some ad → gw < ad.block) := Lib.hid (fun ad e => by have := (at22 ad e).1; omega)
        clear HS rr bb at22 z22 h15 h175 hP5 Rs szs
        have dq : ((nq : Int) != (nq : Int)) = false := by simp
        have dq2 : (nq != nq) = false := by simp
        have Y0 := Lib.hid (added_zero F Z P ns lF)
        have O0 := Lib.hid (Only.refl (fun q => q = gw) w6)
        go_wp2_with fail
        clear dq dq2 d1 d1'
        go_loopw [23] (fun i wr => ∃ (t : Nat) (Y : List Int), i = .int .i64 t ∧ t ≤ nq ∧ Hid (AddedX F Z P ns t Y) ∧ Hid (Row wr gw (.slice (some ⟨gw, 0, none⟩) ns ns) Y) ∧ Hid (Only (fun q => q = gw) w6 wr)) (fun i _ => (nq - intOf i).toNat)
        case atStart => exact ⟨0, F, rfl, by omega, Y0, Rs6, O0⟩
        case round =>
          rename World => wr3
          obtain ⟨t3, Y, rfl, ht3, hY, hR7, hO⟩ := hrel
          by_cases hlt : t3 < nq
          · have d1 : decide ((t3 : Int) < (nq : Int)) = true := decide_eq_true (by omega)
            have d1' : decide (t3 < nq) = true := decide_eq_true hlt
            have d3 : (t3 : Int) < (nq : Int) := by omega
            have hpp := eachP.out t3 hlt
            have lY := hY.out.1.1
            obtain ⟨ga, ca, ev, gb1, gb2, -, -, hfz, hcl⟩ := hR7.out.open' (by omega)
            rw [lY] at ev
            injection ev with ev _ ev3
            injection ev with ev
            injection ev with ev
            subst ev; subst ev3
            have hAt6 := hP6.out.only hO.out (fun q hq e => by have := (own18.out q hq).2; have := hgw.out; omega)
            obtain ⟨A18', c18', e14, -, -, -, k18⟩ := hAt6.slice
            injection e14 with e14 e14a e14b
            subst e14; subst e14b
            rw [lP] at k18
            obtain ⟨ge, rfl, x14⟩ := k18 t3 hlt
            have H22 := h22.out.only hO.out (fun ad e q => by have := at22'.out ad e; omega)
            obtain ⟨b16, o16, rfl, k16⟩ := H22.2.2 (by omega)
            have x16 := k16 t3 hlt
            have s1' := sumP.out t3 hlt
            have hG2 := hY.out.1.2 (P.getD t3 0) hpp (fun i hi e => by have := injP.out i t3 (by omega) hlt e; omega)
            have xa := hcl (P.getD t3 0) (by omega)
            rw [hG2] at xa
            have bE1 := okE.out _ (getD_mem (show t3 < E.length by omega))
            have bF1 := okF.out _ (getD_mem (show P.getD t3 0 < F.length by omega))
            have nxt := hY.out.next hpp s1' (fun i hi e => by have := injP.out i t3 (by omega) hlt e; omega)
            have rset := (show Row wr3.drew gw _ Y from hR7.out).set (k := P.getD t3 0) (by omega) (F.getD (P.getD t3 0) 0 + E.getD t3 0)
            have oset := (hO.out.drewN 1).trans (set_only wr3.drew gw (P.getD t3 0) (.int .i64 (F.getD (P.getD t3 0) 0 + E.getD t3 0)))
            have fz := hfz (P.getD t3 0)
            replace nxt := Lib.hid nxt
            replace rset := Lib.hid rset
            replace oset := Lib.hid oset
            clear hcl hfz k18 k16 hG2 s1' e14a hAt6 H22
            generalize P.getD t3 0 = pp at *
            generalize F.getD pp 0 = y1 at *
            generalize E.getD t3 0 = y2 at *
            have d4 : (pp : Int) < (ns : Int) := by omega
            have wr1 : IntKind.i64.wrap (y1 + y2) = y1 + y2 := IntWalk.i64_in _ (by omega)
            go_wp2_with fail
            go_still_tail 18, (by kernel_rfl)
            have fz2 : wr3.drew.frozen? ⟨gw, pp, none⟩ = false := fz
            have xa2 : wr3.drew.cell? ⟨gw, pp, none⟩ = some (.int .i64 y1) := xa
            change wpList _ _ _ _ _ wr3.drew
            generalize wr3.drew = wd at *
            clear fz xa x14 x16
            go_wp2_with fail
            go_roundw
            case rel => exact ⟨t3 + 1, Y.set pp (y1 + y2), by go_num, by omega, nxt, rset, oset⟩
            case measure => simp [intOf]; omega
          · have et3 : t3 = nq := by omega
            have d1 : decide ((t3 : Int) < (nq : Int)) = false := decide_eq_false (by omega)
            have d1' : decide (t3 < nq) = false := decide_eq_false (by omega)
            have hYZ : Y = Z := doneP.out Y (by rw [← et3]; exact hY.out)
            rw [hYZ] at hR7
            obtain ⟨A27, c27, e27, h27, -, -, -, -⟩ := hR7.out.slice iZ.out
            rw [lZ] at e27 h27
            injection e27 with e27a e27b e27c
            subst e27a; subst e27c
            replace h27 := Lib.hid h27
            have h17' := Lib.hid (h16.out.only hO.out (fun ad e q => by injection e with e; subst e; have q' : b1 = gw := q; omega))
            replace B := Lib.hid (B.out.trans (hO.out.below (B := w.heap.size) B.out.size (fun q hq e => by omega)))
            clear hYZ hY hR7 hO et3
            have HS := PShare_any (some ⟨b1, o1', none⟩) ns c1 S (p : Int) (m : Int) (1 + (j : Int)) (k : Int) wr3 (by omega) (by omega) (by omega) (by omega) (by omega) (by omega) (by omega) (by omega) (by omega) h17'
            rw [tZ.out] at HS
            replace HS := Lib.hid HS
            go_wp2_with fail
            refine HS.out.mono ?_
            rintro e w8 ⟨v, rfl, rr, bb⟩
            obtain ⟨A8, c8, rfl, h8, zA8, lA8, mA8, atA8⟩ := rr.slice iZ.out
            rw [lZ] at h8 lA8 ⊢
            replace h8 := Lib.hid h8
            replace h27 := Lib.hid (h27.out.below bb)
            replace B := Lib.hid (below_up B.out bb)
            clear HS rr bb atA8 zA8
            go_wp2_with fail
            refine (Same_yes A8 (some ⟨gw, 0, none⟩) ns c8 ns Z w8 (by omega) h8 h27).mono ?_
            rintro e wx ⟨rfl, dd, rfl⟩
            replace B := Lib.hid (below_drewN B.out dd)
            obtain ⟨w9, hnw⟩ : ∃ wn, w8.drewN dd = wn := ⟨_, rfl⟩
            rw [hnw] at B ⊢
            clear hnw 
            go_wp2_with fail
            refine (Known_any _).mono ?_
            rintro e wz ⟨rfl, bz⟩
            replace B := Lib.hid (below_up B.out bz)
            clear bz
            go_wp2_with fail
            go_ret
            exact ⟨rfl, B.out⟩
  · have e1 : decide ((k : Int) < (m : Int)) = false := decide_eq_false (by omega)
    have e1' : decide (k < m) = false := decide_eq_false (by omega)
    have e2 : decide (x < (m : Int)) = true := decide_eq_true (by omega)
    obtain ⟨F, R, E, fF, lF, lR, rO, rP, pE, lE, okE, okL, lL0, okF, tZ, okZ⟩ := parts.out p x (by rw [hns]; exact pl) (by rw [hx.out]; omega)
    rw [hns] at fF lF lR lL0
    rw [hx.out] at rP
    have kE : (k : Int) - x = (k : Int) - x := by omega
    rw [← kE] at pE
    clear kE ca cb
    have few : ∀ t, (posL (R.take t)).length ≤ 250 := fun t => by have := pos_len (R.take t); rw [List.length_take] at this; omega
    have iL : ∀ y ∈ posL R, I64 y := fun y hy => by have := okL y hy; exact ⟨by omega, by omega⟩
    have iE : ∀ y ∈ E, I64 y := fun y hy => by have := okE y hy; exact ⟨by omega, by omega⟩
    have iZ : ∀ y ∈ addZ F (spreadL R E), I64 y := fun y hy => by have := okZ y hy; exact ⟨by omega, by omega⟩
    have lZ : (addZ F (spreadL R E)).length = ns := by rw [addZ_len (by rw [spread_len]; omega)]; exact lF
    have sumA := fun P (hA : At R R.length P) j (hj : j < P.length) => hA.sum (E := E) (show F.length = R.length by omega) hj
    have doneA := fun P Y (hA : At R R.length P) hY => hA.done (Y := Y) (E := E) (show F.length = R.length by omega) hY
    rw [lR] at sumA doneA
    have pL0 := pos_none R
    have et : R.take ns = R := List.take_of_length_le (by omega)
    obtain ⟨Z, hZ⟩ : ∃ Z, addZ F (spreadL R E) = Z := ⟨_, rfl⟩
    simp only [hZ] at tZ okZ iZ lZ sumA doneA
    replace few := Lib.hid few
    replace iL := Lib.hid iL
    replace iE := Lib.hid iE
    replace iZ := Lib.hid iZ
    replace sumA := Lib.hid sumA
    replace doneA := Lib.hid doneA
    replace fF := Lib.hid fF
    replace rO := Lib.hid rO
    replace rP := Lib.hid rP
    replace pE := Lib.hid pE
    replace okE := Lib.hid okE
    replace okF := Lib.hid okF
    replace tZ := Lib.hid tZ
    replace hZ := Lib.hid hZ
    replace et := Lib.hid et
    replace pL0 := Lib.hid pL0
    clear okZ okL
    have R0 := Lib.hid (row_nil w1 w1.heap.size)
    have I0 := Lib.hid (ir_nil w1 w1.heap.size)
    have B0 := Lib.hid (Below.refl w1.heap.size w1)
    obtain ⟨g, hg⟩ : ∃ g, w1.heap.size = g := ⟨_, rfl⟩
    rw [hg] at R0 I0 B0
    have wg : w.heap.size ≤ g := by rw [← hg]; exact B.out.size
    have ltg : b1 < g := by rw [← hg]; exact ltA.out
    replace hg := Lib.hid hg
    have D0 : Hid (∀ q, (Value.slice none 0 0).ownBlock = some q → (Value.slice none 0 0).ownBlock ≠ some q) := Lib.hid (fun q e => by cases e)
    go_wp2_with fail
    clear c1x e1 e1' e2
    go_loopw [17, 18, 19] (fun u v i wr => ∃ (t : Nat) (P : List Nat), i = .int .i64 t ∧ t ≤ ns ∧ Hid (At R t P) ∧ Hid (Row wr g u (posL (R.take t))) ∧ Hid (IR wr g v P) ∧ Hid (∀ q, u.ownBlock = some q → v.ownBlock ≠ some q) ∧ Hid (Below g w1 wr)) (fun _ _ i _ => ns - (intOf i).toNat)
    case atStart => exact ⟨0, [], rfl, by omega, Lib.hid (at_nil R), by rw [pL0.out]; exact R0, I0, D0, B0⟩
    case round =>
      obtain ⟨t, P, rfl, ht, hAt, hL, hP, hne, hB⟩ := hrel
      have hw : g ≤ wr.heap.size := by have q := hB.out.size; rw [hg.out] at q; exact q
      by_cases hlt : t < ns
      · have d1 : decide ((t : Int) < (ns : Int)) = true := decide_eq_true (by omega)
        have d1' : decide (t < ns) = true := decide_eq_true hlt
        have d3 : (t : Int) < (ns : Int) := by omega
        have HW := h1.out.below (show Below w1.heap.size w1 wr by rw [hg.out]; exact hB.out)
        obtain ⟨b1', o1x, ea, q1⟩ := HW.2.2 (by omega)
        injection ea with ea
        injection ea with ea eb
        subst ea; subst eb
        have c1' := q1 t hlt
        have fk := few.out t
        have lP : P.length ≤ 250 := by rw [hAt.out.len]; exact fk
        have aTk := hAt.out.take (show t < R.length by omega)
        have aSk := hAt.out.skip (show t < R.length by omega)
        have mk := pos_more (r := R) (k := t) (by omega)
        have sk := pos_skip (r := R) (k := t) (by omega)
        clear HW q1
        by_cases htp : t = p
        · have dt : ((t : Int) == (p : Int)) = true := by simp [htp]
          have dt2 : (t == p) = true := by simp [htp]
          rw [htp, hx.out, ← htp] at c1'
          have rT := rP.out
          rw [← htp] at rT
          rw [rT] at aTk aSk mk sk
          clear htp rT
          replace aSk := Lib.hid (aSk (by omega))
          replace sk := Lib.hid (sk (by omega))
          clear aTk mk
          go_wp2_with fail
          go_roundw
          case rel => exact ⟨t + 1, P, by go_num, by omega, aSk, by rw [sk.out]; exact hL, hP, hne, hB⟩
          case measure => simp [intOf]; omega
        · have dt : ((t : Int) == (p : Int)) = false := by simp; omega
          have dt2 : (t == p) = false := by simp; omega
          have rT := rO.out t (by rw [hns]; exact hlt) htp
          have xb' := okS.out _ (getD_mem (show t < S.length by omega))
          rw [rT] at aTk aSk mk sk
          clear rT htp
          generalize S.getD t 0 = x' at *
          have d4 : decide (0 < x') = true := decide_eq_true (by omega)
          replace aTk := Lib.hid (aTk (by omega))
          replace mk := Lib.hid (mk (by omega))
          clear aSk sk
          have hz := one_lit wr x' 2 (by omega) (by omega)
          have hb1 : g ≤ (wr.alloc (.cells #[.int .i64 x'] 2)).heap.size := by simp; omega
          have ba := Lib.hid (hB.out.alloc hw (.cells #[.int .i64 x'] 2))
          have hP1 := Lib.hid (hP.out.alloc (.cells #[.int .i64 x'] 2))
          have hL1 := Lib.hid (hL.out.alloc (.cells #[.int .i64 x'] 2))
          replace hz := Lib.hid hz
          go_wp2_with (at_builtin; refine wpList_onto (by rfl) (.tmp 77) (.tmp 79) 22 (by rfl) g i0 Try.underlying22 hi0 hy0 hy1 hy2 _ _ (by rfl) hL1.out _ 1 1 [x'] (by rfl) hz.out (fun e => by cases e) (by omega) hb1 ?_)
          intro v3 w3 r3 g3 o3
          rw [← mk.out] at r3
          have B3 := Lib.hid (ba.out.grown g3 hb1 (fun q hq => (Row.lt hL.out hq).1))
          have P3 := Lib.hid (hP1.out.only (only_grown g3) (fun q hq e => hne.out q e.symm hq))
          have ne3 : Hid (∀ q, v3.ownBlock = some q → u18.ownBlock ≠ some q) := Lib.hid (fun q hq e => by
            rcases o3 with hh | hh
            · rw [hh] at hq; exact hne.out q hq e
            · rw [hh] at hq
              injection hq with hq
              have := (IR.lt hP1.out e).2
              (try simp only [World.size_alloc] at this)
              (try simp only [World.size_alloc] at hq)
              omega)
          replace r3 := Lib.hid r3
          clear g3 o3 hz ba hb1
          have sz3 : g ≤ w3.heap.size := by have q := B3.out.size; rw [hg.out] at q; exact q
          have sz9 : g ≤ (w3.alloc (.cells #[.int .i64 (t : Int)] 3)).heap.size := by simp; omega
          have P9 := Lib.hid (P3.out.alloc (.cells #[.int .i64 (t : Int)] 3))
          have q9 : (w3.alloc (.cells #[.int .i64 (t : Int)] 3)).cell? ⟨w3.heap.size, 0, none⟩ = some (.int .i64 (t : Int)) := by simp
          have b9 := Lib.hid (B3.out.alloc sz3 (.cells #[.int .i64 (t : Int)] 3))
          have r9 := Lib.hid (r3.out.alloc (.cells #[.int .i64 (t : Int)] 3))
          go_wp2_with (at_builtin; refine wpList_onto_i (by rfl) (.tmp 81) (.tmp 83) 37 (by rfl) g i1 Try.underlying37 hi1 hx0 hx1 hx2 _ P (by rfl) P9.out ⟨w3.heap.size, 0, none⟩ 1 t (by rfl) q9 (by omega) sz9 ?_)
          intro v10 w10 r10 g10 o10
          have b10 := Lib.hid (b9.out.grown g10 sz9 (fun q hq => (P3.out.lt hq).1))
          have rr10 := Lib.hid (r9.out.only (only_grown g10) (fun q hq e => ne3.out q hq e.symm))
          have ne10 : Hid (∀ q, v3.ownBlock = some q → v10.ownBlock ≠ some q) := Lib.hid (fun q hq e => by
            rcases o10 with hh | hh
            · rw [hh] at e; exact ne3.out q hq e
            · rw [hh] at e
              injection e with e
              have := (Row.lt r9.out hq).2
              (try simp only [World.size_alloc] at this)
              (try simp only [World.size_alloc] at e)
              omega)
          replace r10 := Lib.hid r10
          clear g10 o10 q9 P9
          go_wp2_with fail
          go_roundw
          case rel => exact ⟨t + 1, P ++ [t], by go_num, by omega, aTk, rr10, r10, ne10, b10⟩
          case measure => simp [intOf]; omega
      · have d1 : decide ((t : Int) < (ns : Int)) = false := decide_eq_false (by omega)
        have d1' : decide (t < ns) = false := decide_eq_false hlt
        have etn : t = ns := by omega
        rw [etn, et.out] at hL
        have hAt2 := hAt.out
        rw [etn] at hAt2
        have lP := hAt2.len
        rw [et.out] at lP
        obtain ⟨nq, hnq⟩ : ∃ nq, (posL R).length = nq := ⟨_, rfl⟩
        rw [hnq] at lP lE lL0
        have eachP : Hid (∀ j, j < nq → P.getD j 0 < ns) := Lib.hid (fun j hj => (hAt2.each j (by omega)).1)
        have injP : Hid (∀ i j, i < nq → j < nq → P.getD i 0 = P.getD j 0 → i = j) := Lib.hid (fun i j hi hj e => hAt2.inj (by omega) (by omega) e)
        have sumP := sumA.out P hAt2
        have doneP := fun Y => doneA.out P Y hAt2
        rw [lP] at sumP doneP
        replace sumP := Lib.hid sumP
        replace doneP := Lib.hid doneP
        obtain ⟨A17, c17, rfl, h17, -, l17, m17, at17⟩ := hL.out.slice iL.out
        obtain ⟨A18, c18, rfl, l18, m18, z18, k18⟩ := hP.out.slice
        rw [hnq] at h17 l17 ⊢
        rw [lP] at l18 k18 ⊢
        have own18 := fun q hq => hP.out.lt (k := q) hq
        replace own18 := Lib.hid own18
        replace h17 := Lib.hid h17
        replace at17 := Lib.hid at17
        replace hnq := Lib.hid hnq
        replace B := Lib.hid (B.out.trans (hB.out.mono wg))
        have h1r := Lib.hid (h1.out.below (show Below w1.heap.size w1 wr by rw [hg.out]; exact hB.out))
        clear h1
        have h1 := h1r
        clear h1r hAt hAt2 etn hL hne hB k18 sumA doneA few rO rP R0 I0 B0 D0 ht hlt
        go_wp2_with (at_make; refine wpList_make_full _ (by rfl) (.tmp 86) (.tmp 86) 22 (by rfl) wr.heap.size 2 i0 (.int .i64 0) 1 Try.underlying22 hi0 hy0 hy1 .i64 .i64 _ _ ns (by rfl) (by rfl) rfl rfl (by rw [hy2]; omega) (by unfold maxLen; omega) (Nat.le_refl _) ?_)
        intro w4 r4 g4
        have R4 := Lib.hid (row_made r4)
        have B4 : Hid (Below wr.heap.size wr w4) := Lib.hid ((Below.refl _ wr).grown g4 (Nat.le_refl _) (fun k e => by cases e))
        obtain ⟨gw, hgw⟩ : ∃ gw, wr.heap.size = gw := ⟨_, rfl⟩
        rw [hgw] at R4 B4
        have hw2 : g ≤ gw := by rw [← hgw]; exact hw
        obtain ⟨g', cap', e', -, hgl, hcc, hcm, hfz, hcl2⟩ := R4.out.open' (by simp; omega)
        rw [List.length_replicate] at e' hcl2
        injection e' with ex1 ex2 ex3
        injection ex1 with ex1
        injection ex1 with ex1
        subst ex1; subst ex3
        have hfk := hfz p
        have hck0 := hcl2 p pl
        have Rs := R4.out.set (k := p) (by simp; omega) x
        rw [fF.out] at Rs
        replace Rs := Lib.hid Rs
        have Bs : Hid (Below gw wr (w4.setCell ⟨gw, p, none⟩ (.int .i64 x))) := Lib.hid (B4.out.trans ((set_only w4 gw p (.int .i64 x)).below (B := gw) (by have q := B4.out.size; rw [hgw] at q; exact q) (fun j hj e => by omega)))
        have szs : gw < (w4.setCell ⟨gw, p, none⟩ (.int .i64 x)).heap.size := by simpa using hgl
        clear r4 g4 hfz hcl2 R4 B4
        go_wp2_with fail
        replace hgw := Lib.hid hgw
        (try rw [hgw.out])
        obtain ⟨w5, hw5⟩ : ∃ w5, w4.setCell ⟨gw, p, none⟩ (.int .i64 x) = w5 := ⟨_, rfl⟩
        rw [hw5] at Rs Bs szs ⊢
        clear hw5 hfk hck0
        have Bs' : Below wr.heap.size wr w5 := by rw [hgw.out]; exact Bs.out
        have h15 := Lib.hid (h1.out.below Bs')
        have h175 := Lib.hid (h17.out.below Bs')
        have hP5 := Lib.hid (hP.out.below Bs')
        replace B := Lib.hid (below_up B.out Bs')
        clear h1 h17 hP Bs Bs'
        have HS := PPlain_any A17 nq c17 (posL R) (1 + (j : Int)) ((k : Int) - x) w5 (by omega) (by omega) (by omega) (by omega) (by omega) h175
        rw [pE.out] at HS
        replace HS := Lib.hid HS
        refine HS.out.mono ?_
        rintro e w6 ⟨v, rfl, rr, bb⟩
        obtain ⟨A22, c22, rfl, h22, z22, l22, m22, at22⟩ := rr.slice iE.out
        rw [lE] at h22 l22 ⊢
        have h16 := Lib.hid (h15.out.below bb)
        have hP6 := Lib.hid (hP5.out.below bb)
        have Rs6 := Lib.hid (Rs.out.below bb)
        replace B := Lib.hid (below_up B.out bb)
        replace h22 := Lib.hid h22
        have at22' : Hid (∀ ad, A22 = some ad → gw < ad.block) := Lib.hid (fun ad e => by have := (at22 ad e).1; omega)
        clear HS rr bb at22 z22 h15 h175 hP5 Rs szs
        have dq : ((nq : Int) != (nq : Int)) = false := by simp
        have dq2 : (nq != nq) = false := by simp
        have Y0 := Lib.hid (added_zero F Z P ns lF)
        have O0 := Lib.hid (Only.refl (fun q => q = gw) w6)
        go_wp2_with fail
        clear dq dq2 d1 d1'
        go_loopw [23] (fun i wr => ∃ (t : Nat) (Y : List Int), i = .int .i64 t ∧ t ≤ nq ∧ Hid (AddedX F Z P ns t Y) ∧ Hid (Row wr gw (.slice (some ⟨gw, 0, none⟩) ns ns) Y) ∧ Hid (Only (fun q => q = gw) w6 wr)) (fun i _ => (nq - intOf i).toNat)
        case atStart => exact ⟨0, F, rfl, by omega, Y0, Rs6, O0⟩
        case round =>
          rename World => wr3
          obtain ⟨t3, Y, rfl, ht3, hY, hR7, hO⟩ := hrel
          by_cases hlt : t3 < nq
          · have d1 : decide ((t3 : Int) < (nq : Int)) = true := decide_eq_true (by omega)
            have d1' : decide (t3 < nq) = true := decide_eq_true hlt
            have d3 : (t3 : Int) < (nq : Int) := by omega
            have hpp := eachP.out t3 hlt
            have lY := hY.out.1.1
            obtain ⟨ga, ca, ev, gb1, gb2, -, -, hfz, hcl⟩ := hR7.out.open' (by omega)
            rw [lY] at ev
            injection ev with ev _ ev3
            injection ev with ev
            injection ev with ev
            subst ev; subst ev3
            have hAt6 := hP6.out.only hO.out (fun q hq e => by have := (own18.out q hq).2; have := hgw.out; omega)
            obtain ⟨A18', c18', e14, -, -, -, k18⟩ := hAt6.slice
            injection e14 with e14 e14a e14b
            subst e14; subst e14b
            rw [lP] at k18
            obtain ⟨ge, rfl, x14⟩ := k18 t3 hlt
            have H22 := h22.out.only hO.out (fun ad e q => by have := at22'.out ad e; omega)
            obtain ⟨b16, o16, rfl, k16⟩ := H22.2.2 (by omega)
            have x16 := k16 t3 hlt
            have s1' := sumP.out t3 hlt
            have hG2 := hY.out.1.2 (P.getD t3 0) hpp (fun i hi e => by have := injP.out i t3 (by omega) hlt e; omega)
            have xa := hcl (P.getD t3 0) (by omega)
            rw [hG2] at xa
            have bE1 := okE.out _ (getD_mem (show t3 < E.length by omega))
            have bF1 := okF.out _ (getD_mem (show P.getD t3 0 < F.length by omega))
            have nxt := hY.out.next hpp s1' (fun i hi e => by have := injP.out i t3 (by omega) hlt e; omega)
            have rset := (show Row wr3.drew gw _ Y from hR7.out).set (k := P.getD t3 0) (by omega) (F.getD (P.getD t3 0) 0 + E.getD t3 0)
            have oset := (hO.out.drewN 1).trans (set_only wr3.drew gw (P.getD t3 0) (.int .i64 (F.getD (P.getD t3 0) 0 + E.getD t3 0)))
            have fz := hfz (P.getD t3 0)
            replace nxt := Lib.hid nxt
            replace rset := Lib.hid rset
            replace oset := Lib.hid oset
            clear hcl hfz k18 k16 hG2 s1' e14a hAt6 H22
            generalize P.getD t3 0 = pp at *
            generalize F.getD pp 0 = y1 at *
            generalize E.getD t3 0 = y2 at *
            have d4 : (pp : Int) < (ns : Int) := by omega
            have wr1 : IntKind.i64.wrap (y1 + y2) = y1 + y2 := IntWalk.i64_in _ (by omega)
            go_wp2_with fail
            go_still_tail 18, (by kernel_rfl)
            have fz2 : wr3.drew.frozen? ⟨gw, pp, none⟩ = false := fz
            have xa2 : wr3.drew.cell? ⟨gw, pp, none⟩ = some (.int .i64 y1) := xa
            change wpList _ _ _ _ _ wr3.drew
            generalize wr3.drew = wd at *
            clear fz xa x14 x16
            go_wp2_with fail
            go_roundw
            case rel => exact ⟨t3 + 1, Y.set pp (y1 + y2), by go_num, by omega, nxt, rset, oset⟩
            case measure => simp [intOf]; omega
          · have et3 : t3 = nq := by omega
            have d1 : decide ((t3 : Int) < (nq : Int)) = false := decide_eq_false (by omega)
            have d1' : decide (t3 < nq) = false := decide_eq_false (by omega)
            have hYZ : Y = Z := doneP.out Y (by rw [← et3]; exact hY.out)
            rw [hYZ] at hR7
            obtain ⟨A27, c27, e27, h27, -, -, -, -⟩ := hR7.out.slice iZ.out
            rw [lZ] at e27 h27
            injection e27 with e27a e27b e27c
            subst e27a; subst e27c
            replace h27 := Lib.hid h27
            have h17' := Lib.hid (h16.out.only hO.out (fun ad e q => by injection e with e; subst e; have q' : b1 = gw := q; omega))
            replace B := Lib.hid (B.out.trans (hO.out.below (B := w.heap.size) B.out.size (fun q hq e => by omega)))
            clear hYZ hY hR7 hO et3
            have HS := PShare_any (some ⟨b1, o1', none⟩) ns c1 S (p : Int) (m : Int) (1 + (j : Int)) (k : Int) wr3 (by omega) (by omega) (by omega) (by omega) (by omega) (by omega) (by omega) (by omega) (by omega) h17'
            rw [tZ.out] at HS
            replace HS := Lib.hid HS
            go_wp2_with fail
            refine HS.out.mono ?_
            rintro e w8 ⟨v, rfl, rr, bb⟩
            obtain ⟨A8, c8, rfl, h8, zA8, lA8, mA8, atA8⟩ := rr.slice iZ.out
            rw [lZ] at h8 lA8 ⊢
            replace h8 := Lib.hid h8
            replace h27 := Lib.hid (h27.out.below bb)
            replace B := Lib.hid (below_up B.out bb)
            clear HS rr bb atA8 zA8
            go_wp2_with fail
            refine (Same_yes A8 (some ⟨gw, 0, none⟩) ns c8 ns Z w8 (by omega) h8 h27).mono ?_
            rintro e wx ⟨rfl, dd, rfl⟩
            replace B := Lib.hid (below_drewN B.out dd)
            obtain ⟨w9, hnw⟩ : ∃ wn, w8.drewN dd = wn := ⟨_, rfl⟩
            rw [hnw] at B ⊢
            clear hnw 
            go_wp2_with fail
            refine (Known_any _).mono ?_
            rintro e wz ⟨rfl, bz⟩
            replace B := Lib.hid (below_up B.out bz)
            clear bz
            go_wp2_with fail
            go_ret
            exact ⟨rfl, B.out⟩
  · have e1 : decide ((k : Int) < (m : Int)) = true := decide_eq_true (by omega)
    have e1' : decide (k < m) = true := decide_eq_true (by omega)
    have e2 : decide (x < (k : Int)) = false := decide_eq_false (by omega)
    obtain ⟨F, R, E, fF, lF, lR, rO, rP, pE, lE, okE, okL, lL0, okF, tZ, okZ⟩ := parts.out p (k : Int) (by rw [hns]; exact pl) (by rw [hx.out]; omega)
    rw [hns] at fF lF lR lL0
    rw [hx.out] at rP
    have kE : 0 = (k : Int) - (k : Int) := by omega
    rw [← kE] at pE
    clear kE ca cb
    have few : ∀ t, (posL (R.take t)).length ≤ 250 := fun t => by have := pos_len (R.take t); rw [List.length_take] at this; omega
    have iL : ∀ y ∈ posL R, I64 y := fun y hy => by have := okL y hy; exact ⟨by omega, by omega⟩
    have iE : ∀ y ∈ E, I64 y := fun y hy => by have := okE y hy; exact ⟨by omega, by omega⟩
    have iZ : ∀ y ∈ addZ F (spreadL R E), I64 y := fun y hy => by have := okZ y hy; exact ⟨by omega, by omega⟩
    have lZ : (addZ F (spreadL R E)).length = ns := by rw [addZ_len (by rw [spread_len]; omega)]; exact lF
    have sumA := fun P (hA : At R R.length P) j (hj : j < P.length) => hA.sum (E := E) (show F.length = R.length by omega) hj
    have doneA := fun P Y (hA : At R R.length P) hY => hA.done (Y := Y) (E := E) (show F.length = R.length by omega) hY
    rw [lR] at sumA doneA
    have pL0 := pos_none R
    have et : R.take ns = R := List.take_of_length_le (by omega)
    obtain ⟨Z, hZ⟩ : ∃ Z, addZ F (spreadL R E) = Z := ⟨_, rfl⟩
    simp only [hZ] at tZ okZ iZ lZ sumA doneA
    replace few := Lib.hid few
    replace iL := Lib.hid iL
    replace iE := Lib.hid iE
    replace iZ := Lib.hid iZ
    replace sumA := Lib.hid sumA
    replace doneA := Lib.hid doneA
    replace fF := Lib.hid fF
    replace rO := Lib.hid rO
    replace rP := Lib.hid rP
    replace pE := Lib.hid pE
    replace okE := Lib.hid okE
    replace okF := Lib.hid okF
    replace tZ := Lib.hid tZ
    replace hZ := Lib.hid hZ
    replace et := Lib.hid et
    replace pL0 := Lib.hid pL0
    clear okZ okL
    have R0 := Lib.hid (row_nil w1 w1.heap.size)
    have I0 := Lib.hid (ir_nil w1 w1.heap.size)
    have B0 := Lib.hid (Below.refl w1.heap.size w1)
    obtain ⟨g, hg⟩ : ∃ g, w1.heap.size = g := ⟨_, rfl⟩
    rw [hg] at R0 I0 B0
    have wg : w.heap.size ≤ g := by rw [← hg]; exact B.out.size
    have ltg : b1 < g := by rw [← hg]; exact ltA.out
    replace hg := Lib.hid hg
    have D0 : Hid (∀ q, (Value.slice none 0 0).ownBlock = some q → (Value.slice none 0 0).ownBlock ≠ some q) := Lib.hid (fun q e => by cases e)
    go_wp2_with fail
    clear c1x e1 e1' e2
    go_loopw [17, 18, 19] (fun u v i wr => ∃ (t : Nat) (P : List Nat), i = .int .i64 t ∧ t ≤ ns ∧ Hid (At R t P) ∧ Hid (Row wr g u (posL (R.take t))) ∧ Hid (IR wr g v P) ∧ Hid (∀ q, u.ownBlock = some q → v.ownBlock ≠ some q) ∧ Hid (Below g w1 wr)) (fun _ _ i _ => ns - (intOf i).toNat)
    case atStart => exact ⟨0, [], rfl, by omega, Lib.hid (at_nil R), by rw [pL0.out]; exact R0, I0, D0, B0⟩
    case round =>
      obtain ⟨t, P, rfl, ht, hAt, hL, hP, hne, hB⟩ := hrel
      have hw : g ≤ wr.heap.size := by have q := hB.out.size; rw [hg.out] at q; exact q
      by_cases hlt : t < ns
      · have d1 : decide ((t : Int) < (ns : Int)) = true := decide_eq_true (by omega)
        have d1' : decide (t < ns) = true := decide_eq_true hlt
        have d3 : (t : Int) < (ns : Int) := by omega
        have HW := h1.out.below (show Below w1.heap.size w1 wr by rw [hg.out]; exact hB.out)
        obtain ⟨b1', o1x, ea, q1⟩ := HW.2.2 (by omega)
        injection ea with ea
        injection ea with ea eb
        subst ea; subst eb
        have c1' := q1 t hlt
        have fk := few.out t
        have lP : P.length ≤ 250 := by rw [hAt.out.len]; exact fk
        have aTk := hAt.out.take (show t < R.length by omega)
        have aSk := hAt.out.skip (show t < R.length by omega)
        have mk := pos_more (r := R) (k := t) (by omega)
        have sk := pos_skip (r := R) (k := t) (by omega)
        clear HW q1
        by_cases htp : t = p
        · have dt : ((t : Int) == (p : Int)) = true := by simp [htp]
          have dt2 : (t == p) = true := by simp [htp]
          rw [htp, hx.out, ← htp] at c1'
          have rT := rP.out
          rw [← htp] at rT
          rw [rT] at aTk aSk mk sk
          clear htp rT
          by_cases hv : (k : Int) < x
          · have d4 : decide (0 < x - (k : Int)) = true := decide_eq_true (by omega)
            replace aTk := Lib.hid (aTk (by omega))
            replace mk := Lib.hid (mk (by omega))
            clear aSk sk
            have hz := one_lit wr (x - (k : Int)) 2 (by omega) (by omega)
            have hb1 : g ≤ (wr.alloc (.cells #[.int .i64 (x - (k : Int))] 2)).heap.size := by simp; omega
            have ba := Lib.hid (hB.out.alloc hw (.cells #[.int .i64 (x - (k : Int))] 2))
            have hP1 := Lib.hid (hP.out.alloc (.cells #[.int .i64 (x - (k : Int))] 2))
            have hL1 := Lib.hid (hL.out.alloc (.cells #[.int .i64 (x - (k : Int))] 2))
            replace hz := Lib.hid hz
            go_wp2_with (at_builtin; refine wpList_onto (by rfl) (.tmp 77) (.tmp 79) 22 (by rfl) g i0 Try.underlying22 hi0 hy0 hy1 hy2 _ _ (by rfl) hL1.out _ 1 1 [(x - (k : Int))] (by rfl) hz.out (fun e => by cases e) (by omega) hb1 ?_)
            intro v3 w3 r3 g3 o3
            rw [← mk.out] at r3
            have B3 := Lib.hid (ba.out.grown g3 hb1 (fun q hq => (Row.lt hL.out hq).1))
            have P3 := Lib.hid (hP1.out.only (only_grown g3) (fun q hq e => hne.out q e.symm hq))
            have ne3 : Hid (∀ q, v3.ownBlock = some q → u18.ownBlock ≠ some q) := Lib.hid (fun q hq e => by
              rcases o3 with hh | hh
              · rw [hh] at hq; exact hne.out q hq e
              · rw [hh] at hq
                injection hq with hq
                have := (IR.lt hP1.out e).2
                (try simp only [World.size_alloc] at this)
                (try simp only [World.size_alloc] at hq)
                omega)
            replace r3 := Lib.hid r3
            clear g3 o3 hz ba hb1
            have sz3 : g ≤ w3.heap.size := by have q := B3.out.size; rw [hg.out] at q; exact q
            have sz9 : g ≤ (w3.alloc (.cells #[.int .i64 (t : Int)] 3)).heap.size := by simp; omega
            have P9 := Lib.hid (P3.out.alloc (.cells #[.int .i64 (t : Int)] 3))
            have q9 : (w3.alloc (.cells #[.int .i64 (t : Int)] 3)).cell? ⟨w3.heap.size, 0, none⟩ = some (.int .i64 (t : Int)) := by simp
            have b9 := Lib.hid (B3.out.alloc sz3 (.cells #[.int .i64 (t : Int)] 3))
            have r9 := Lib.hid (r3.out.alloc (.cells #[.int .i64 (t : Int)] 3))
            go_wp2_with (at_builtin; refine wpList_onto_i (by rfl) (.tmp 81) (.tmp 83) 37 (by rfl) g i1 Try.underlying37 hi1 hx0 hx1 hx2 _ P (by rfl) P9.out ⟨w3.heap.size, 0, none⟩ 1 t (by rfl) q9 (by omega) sz9 ?_)
            intro v10 w10 r10 g10 o10
            have b10 := Lib.hid (b9.out.grown g10 sz9 (fun q hq => (P3.out.lt hq).1))
            have rr10 := Lib.hid (r9.out.only (only_grown g10) (fun q hq e => ne3.out q hq e.symm))
            have ne10 : Hid (∀ q, v3.ownBlock = some q → v10.ownBlock ≠ some q) := Lib.hid (fun q hq e => by
              rcases o10 with hh | hh
              · rw [hh] at e; exact ne3.out q hq e
              · rw [hh] at e
                injection e with e
                have := (Row.lt r9.out hq).2
                (try simp only [World.size_alloc] at this)
                (try simp only [World.size_alloc] at e)
                omega)
            replace r10 := Lib.hid r10
            clear g10 o10 q9 P9
            go_wp2_with fail
            go_roundw
            case rel => exact ⟨t + 1, P ++ [t], by go_num, by omega, aTk, rr10, r10, ne10, b10⟩
            case measure => simp [intOf]; omega
          · have d4 : decide (0 < x - (k : Int)) = false := decide_eq_false (by omega)
            replace aSk := Lib.hid (aSk (by omega))
            replace sk := Lib.hid (sk (by omega))
            clear aTk mk
            go_wp2_with fail
            go_roundw
            case rel => exact ⟨t + 1, P, by go_num, by omega, aSk, by rw [sk.out]; exact hL, hP, hne, hB⟩
            case measure => simp [intOf]; omega
        · have dt : ((t : Int) == (p : Int)) = false := by simp; omega
          have dt2 : (t == p) = false := by simp; omega
          have rT := rO.out t (by rw [hns]; exact hlt) htp
          have xb' := okS.out _ (getD_mem (show t < S.length by omega))
          rw [rT] at aTk aSk mk sk
          clear rT htp
          generalize S.getD t 0 = x' at *
          have d4 : decide (0 < x') = true := decide_eq_true (by omega)
          replace aTk := Lib.hid (aTk (by omega))
          replace mk := Lib.hid (mk (by omega))
          clear aSk sk
          have hz := one_lit wr x' 2 (by omega) (by omega)
          have hb1 : g ≤ (wr.alloc (.cells #[.int .i64 x'] 2)).heap.size := by simp; omega
          have ba := Lib.hid (hB.out.alloc hw (.cells #[.int .i64 x'] 2))
          have hP1 := Lib.hid (hP.out.alloc (.cells #[.int .i64 x'] 2))
          have hL1 := Lib.hid (hL.out.alloc (.cells #[.int .i64 x'] 2))
          replace hz := Lib.hid hz
          go_wp2_with (at_builtin; refine wpList_onto (by rfl) (.tmp 77) (.tmp 79) 22 (by rfl) g i0 Try.underlying22 hi0 hy0 hy1 hy2 _ _ (by rfl) hL1.out _ 1 1 [x'] (by rfl) hz.out (fun e => by cases e) (by omega) hb1 ?_)
          intro v3 w3 r3 g3 o3
          rw [← mk.out] at r3
          have B3 := Lib.hid (ba.out.grown g3 hb1 (fun q hq => (Row.lt hL.out hq).1))
          have P3 := Lib.hid (hP1.out.only (only_grown g3) (fun q hq e => hne.out q e.symm hq))
          have ne3 : Hid (∀ q, v3.ownBlock = some q → u18.ownBlock ≠ some q) := Lib.hid (fun q hq e => by
            rcases o3 with hh | hh
            · rw [hh] at hq; exact hne.out q hq e
            · rw [hh] at hq
              injection hq with hq
              have := (IR.lt hP1.out e).2
              (try simp only [World.size_alloc] at this)
              (try simp only [World.size_alloc] at hq)
              omega)
          replace r3 := Lib.hid r3
          clear g3 o3 hz ba hb1
          have sz3 : g ≤ w3.heap.size := by have q := B3.out.size; rw [hg.out] at q; exact q
          have sz9 : g ≤ (w3.alloc (.cells #[.int .i64 (t : Int)] 3)).heap.size := by simp; omega
          have P9 := Lib.hid (P3.out.alloc (.cells #[.int .i64 (t : Int)] 3))
          have q9 : (w3.alloc (.cells #[.int .i64 (t : Int)] 3)).cell? ⟨w3.heap.size, 0, none⟩ = some (.int .i64 (t : Int)) := by simp
          have b9 := Lib.hid (B3.out.alloc sz3 (.cells #[.int .i64 (t : Int)] 3))
          have r9 := Lib.hid (r3.out.alloc (.cells #[.int .i64 (t : Int)] 3))
          go_wp2_with (at_builtin; refine wpList_onto_i (by rfl) (.tmp 81) (.tmp 83) 37 (by rfl) g i1 Try.underlying37 hi1 hx0 hx1 hx2 _ P (by rfl) P9.out ⟨w3.heap.size, 0, none⟩ 1 t (by rfl) q9 (by omega) sz9 ?_)
          intro v10 w10 r10 g10 o10
          have b10 := Lib.hid (b9.out.grown g10 sz9 (fun q hq => (P3.out.lt hq).1))
          have rr10 := Lib.hid (r9.out.only (only_grown g10) (fun q hq e => ne3.out q hq e.symm))
          have ne10 : Hid (∀ q, v3.ownBlock = some q → v10.ownBlock ≠ some q) := Lib.hid (fun q hq e => by
            rcases o10 with hh | hh
            · rw [hh] at e; exact ne3.out q hq e
            · rw [hh] at e
              injection e with e
              have := (Row.lt r9.out hq).2
              (try simp only [World.size_alloc] at this)
              (try simp only [World.size_alloc] at e)
              omega)
          replace r10 := Lib.hid r10
          clear g10 o10 q9 P9
          go_wp2_with fail
          go_roundw
          case rel => exact ⟨t + 1, P ++ [t], by go_num, by omega, aTk, rr10, r10, ne10, b10⟩
          case measure => simp [intOf]; omega
      · have d1 : decide ((t : Int) < (ns : Int)) = false := decide_eq_false (by omega)
        have d1' : decide (t < ns) = false := decide_eq_false hlt
        have etn : t = ns := by omega
        rw [etn, et.out] at hL
        have hAt2 := hAt.out
        rw [etn] at hAt2
        have lP := hAt2.len
        rw [et.out] at lP
        obtain ⟨nq, hnq⟩ : ∃ nq, (posL R).length = nq := ⟨_, rfl⟩
        rw [hnq] at lP lE lL0
        have eachP : Hid (∀ j, j < nq → P.getD j 0 < ns) := Lib.hid (fun j hj => (hAt2.each j (by omega)).1)
        have injP : Hid (∀ i j, i < nq → j < nq → P.getD i 0 = P.getD j 0 → i = j) := Lib.hid (fun i j hi hj e => hAt2.inj (by omega) (by omega) e)
        have sumP := sumA.out P hAt2
        have doneP := fun Y => doneA.out P Y hAt2
        rw [lP] at sumP doneP
        replace sumP := Lib.hid sumP
        replace doneP := Lib.hid doneP
        obtain ⟨A17, c17, rfl, h17, -, l17, m17, at17⟩ := hL.out.slice iL.out
        obtain ⟨A18, c18, rfl, l18, m18, z18, k18⟩ := hP.out.slice
        rw [hnq] at h17 l17 ⊢
        rw [lP] at l18 k18 ⊢
        have own18 := fun q hq => hP.out.lt (k := q) hq
        replace own18 := Lib.hid own18
        replace h17 := Lib.hid h17
        replace at17 := Lib.hid at17
        replace hnq := Lib.hid hnq
        replace B := Lib.hid (B.out.trans (hB.out.mono wg))
        have h1r := Lib.hid (h1.out.below (show Below w1.heap.size w1 wr by rw [hg.out]; exact hB.out))
        clear h1
        have h1 := h1r
        clear h1r hAt hAt2 etn hL hne hB k18 sumA doneA few rO rP R0 I0 B0 D0 ht hlt
        go_wp2_with (at_make; refine wpList_make_full _ (by rfl) (.tmp 86) (.tmp 86) 22 (by rfl) wr.heap.size 2 i0 (.int .i64 0) 1 Try.underlying22 hi0 hy0 hy1 .i64 .i64 _ _ ns (by rfl) (by rfl) rfl rfl (by rw [hy2]; omega) (by unfold maxLen; omega) (Nat.le_refl _) ?_)
        intro w4 r4 g4
        have R4 := Lib.hid (row_made r4)
        have B4 : Hid (Below wr.heap.size wr w4) := Lib.hid ((Below.refl _ wr).grown g4 (Nat.le_refl _) (fun k e => by cases e))
        obtain ⟨gw, hgw⟩ : ∃ gw, wr.heap.size = gw := ⟨_, rfl⟩
        rw [hgw] at R4 B4
        have hw2 : g ≤ gw := by rw [← hgw]; exact hw
        obtain ⟨g', cap', e', -, hgl, hcc, hcm, hfz, hcl2⟩ := R4.out.open' (by simp; omega)
        rw [List.length_replicate] at e' hcl2
        injection e' with ex1 ex2 ex3
        injection ex1 with ex1
        injection ex1 with ex1
        subst ex1; subst ex3
        have hfk := hfz p
        have hck0 := hcl2 p pl
        have Rs := R4.out.set (k := p) (by simp; omega) (k : Int)
        rw [fF.out] at Rs
        replace Rs := Lib.hid Rs
        have Bs : Hid (Below gw wr (w4.setCell ⟨gw, p, none⟩ (.int .i64 (k : Int)))) := Lib.hid (B4.out.trans ((set_only w4 gw p (.int .i64 (k : Int))).below (B := gw) (by have q := B4.out.size; rw [hgw] at q; exact q) (fun j hj e => by omega)))
        have szs : gw < (w4.setCell ⟨gw, p, none⟩ (.int .i64 (k : Int))).heap.size := by simpa using hgl
        clear r4 g4 hfz hcl2 R4 B4
        go_wp2_with fail
        replace hgw := Lib.hid hgw
        (try rw [hgw.out])
        obtain ⟨w5, hw5⟩ : ∃ w5, w4.setCell ⟨gw, p, none⟩ (.int .i64 (k : Int)) = w5 := ⟨_, rfl⟩
        rw [hw5] at Rs Bs szs ⊢
        clear hw5 hfk hck0
        have Bs' : Below wr.heap.size wr w5 := by rw [hgw.out]; exact Bs.out
        have h15 := Lib.hid (h1.out.below Bs')
        have h175 := Lib.hid (h17.out.below Bs')
        have hP5 := Lib.hid (hP.out.below Bs')
        replace B := Lib.hid (below_up B.out Bs')
        clear h1 h17 hP Bs Bs'
        have HS := PPlain_any A17 nq c17 (posL R) (1 + (j : Int)) (0) w5 (by omega) (by omega) (by omega) (by omega) (by omega) h175
        rw [pE.out] at HS
        replace HS := Lib.hid HS
        refine HS.out.mono ?_
        rintro e w6 ⟨v, rfl, rr, bb⟩
        obtain ⟨A22, c22, rfl, h22, z22, l22, m22, at22⟩ := rr.slice iE.out
        rw [lE] at h22 l22 ⊢
        have h16 := Lib.hid (h15.out.below bb)
        have hP6 := Lib.hid (hP5.out.below bb)
        have Rs6 := Lib.hid (Rs.out.below bb)
        replace B := Lib.hid (below_up B.out bb)
        replace h22 := Lib.hid h22
        have at22' : Hid (∀ ad, A22 = some ad → gw < ad.block) := Lib.hid (fun ad e => by have := (at22 ad e).1; omega)
        clear HS rr bb at22 z22 h15 h175 hP5 Rs szs
        have dq : ((nq : Int) != (nq : Int)) = false := by simp
        have dq2 : (nq != nq) = false := by simp
        have Y0 := Lib.hid (added_zero F Z P ns lF)
        have O0 := Lib.hid (Only.refl (fun q => q = gw) w6)
        go_wp2_with fail
        clear dq dq2 d1 d1'
        go_loopw [23] (fun i wr => ∃ (t : Nat) (Y : List Int), i = .int .i64 t ∧ t ≤ nq ∧ Hid (AddedX F Z P ns t Y) ∧ Hid (Row wr gw (.slice (some ⟨gw, 0, none⟩) ns ns) Y) ∧ Hid (Only (fun q => q = gw) w6 wr)) (fun i _ => (nq - intOf i).toNat)
        case atStart => exact ⟨0, F, rfl, by omega, Y0, Rs6, O0⟩
        case round =>
          rename World => wr3
          obtain ⟨t3, Y, rfl, ht3, hY, hR7, hO⟩ := hrel
          by_cases hlt : t3 < nq
          · have d1 : decide ((t3 : Int) < (nq : Int)) = true := decide_eq_true (by omega)
            have d1' : decide (t3 < nq) = true := decide_eq_true hlt
            have d3 : (t3 : Int) < (nq : Int) := by omega
            have hpp := eachP.out t3 hlt
            have lY := hY.out.1.1
            obtain ⟨ga, ca, ev, gb1, gb2, -, -, hfz, hcl⟩ := hR7.out.open' (by omega)
            rw [lY] at ev
            injection ev with ev _ ev3
            injection ev with ev
            injection ev with ev
            subst ev; subst ev3
            have hAt6 := hP6.out.only hO.out (fun q hq e => by have := (own18.out q hq).2; have := hgw.out; omega)
            obtain ⟨A18', c18', e14, -, -, -, k18⟩ := hAt6.slice
            injection e14 with e14 e14a e14b
            subst e14; subst e14b
            rw [lP] at k18
            obtain ⟨ge, rfl, x14⟩ := k18 t3 hlt
            have H22 := h22.out.only hO.out (fun ad e q => by have := at22'.out ad e; omega)
            obtain ⟨b16, o16, rfl, k16⟩ := H22.2.2 (by omega)
            have x16 := k16 t3 hlt
            have s1' := sumP.out t3 hlt
            have hG2 := hY.out.1.2 (P.getD t3 0) hpp (fun i hi e => by have := injP.out i t3 (by omega) hlt e; omega)
            have xa := hcl (P.getD t3 0) (by omega)
            rw [hG2] at xa
            have bE1 := okE.out _ (getD_mem (show t3 < E.length by omega))
            have bF1 := okF.out _ (getD_mem (show P.getD t3 0 < F.length by omega))
            have nxt := hY.out.next hpp s1' (fun i hi e => by have := injP.out i t3 (by omega) hlt e; omega)
            have rset := (show Row wr3.drew gw _ Y from hR7.out).set (k := P.getD t3 0) (by omega) (F.getD (P.getD t3 0) 0 + E.getD t3 0)
            have oset := (hO.out.drewN 1).trans (set_only wr3.drew gw (P.getD t3 0) (.int .i64 (F.getD (P.getD t3 0) 0 + E.getD t3 0)))
            have fz := hfz (P.getD t3 0)
            replace nxt := Lib.hid nxt
            replace rset := Lib.hid rset
            replace oset := Lib.hid oset
            clear hcl hfz k18 k16 hG2 s1' e14a hAt6 H22
            generalize P.getD t3 0 = pp at *
            generalize F.getD pp 0 = y1 at *
            generalize E.getD t3 0 = y2 at *
            have d4 : (pp : Int) < (ns : Int) := by omega
            have wr1 : IntKind.i64.wrap (y1 + y2) = y1 + y2 := IntWalk.i64_in _ (by omega)
            go_wp2_with fail
            go_still_tail 18, (by kernel_rfl)
            have fz2 : wr3.drew.frozen? ⟨gw, pp, none⟩ = false := fz
            have xa2 : wr3.drew.cell? ⟨gw, pp, none⟩ = some (.int .i64 y1) := xa
            change wpList _ _ _ _ _ wr3.drew
            generalize wr3.drew = wd at *
            clear fz xa x14 x16
            go_wp2_with fail
            go_roundw
            case rel => exact ⟨t3 + 1, Y.set pp (y1 + y2), by go_num, by omega, nxt, rset, oset⟩
            case measure => simp [intOf]; omega
          · have et3 : t3 = nq := by omega
            have d1 : decide ((t3 : Int) < (nq : Int)) = false := decide_eq_false (by omega)
            have d1' : decide (t3 < nq) = false := decide_eq_false (by omega)
            have hYZ : Y = Z := doneP.out Y (by rw [← et3]; exact hY.out)
            rw [hYZ] at hR7
            obtain ⟨A27, c27, e27, h27, -, -, -, -⟩ := hR7.out.slice iZ.out
            rw [lZ] at e27 h27
            injection e27 with e27a e27b e27c
            subst e27a; subst e27c
            replace h27 := Lib.hid h27
            have h17' := Lib.hid (h16.out.only hO.out (fun ad e q => by injection e with e; subst e; have q' : b1 = gw := q; omega))
            replace B := Lib.hid (B.out.trans (hO.out.below (B := w.heap.size) B.out.size (fun q hq e => by omega)))
            clear hYZ hY hR7 hO et3
            have HS := PShare_any (some ⟨b1, o1', none⟩) ns c1 S (p : Int) (m : Int) (1 + (j : Int)) (k : Int) wr3 (by omega) (by omega) (by omega) (by omega) (by omega) (by omega) (by omega) (by omega) (by omega) h17'
            rw [tZ.out] at HS
            replace HS := Lib.hid HS
            go_wp2_with fail
            refine HS.out.mono ?_
            rintro e w8 ⟨v, rfl, rr, bb⟩
            obtain ⟨A8, c8, rfl, h8, zA8, lA8, mA8, atA8⟩ := rr.slice iZ.out
            rw [lZ] at h8 lA8 ⊢
            replace h8 := Lib.hid h8
            replace h27 := Lib.hid (h27.out.below bb)
            replace B := Lib.hid (below_up B.out bb)
            clear HS rr bb atA8 zA8
            go_wp2_with fail
            refine (Same_yes A8 (some ⟨gw, 0, none⟩) ns c8 ns Z w8 (by omega) h8 h27).mono ?_
            rintro e wx ⟨rfl, dd, rfl⟩
            replace B := Lib.hid (below_drewN B.out dd)
            obtain ⟨w9, hnw⟩ : ∃ wn, w8.drewN dd = wn := ⟨_, rfl⟩
            rw [hnw] at B ⊢
            clear hnw 
            go_wp2_with fail
            refine (Known_any _).mono ?_
            rintro e wz ⟨rfl, bz⟩
            replace B := Lib.hid (below_up B.out bz)
            clear bz
            go_wp2_with fail
            go_ret
            exact ⟨rfl, B.out⟩
  · have e1 : decide ((k : Int) < (m : Int)) = true := decide_eq_true (by omega)
    have e1' : decide (k < m) = true := decide_eq_true (by omega)
    have e2 : decide (x < (k : Int)) = true := decide_eq_true (by omega)
    obtain ⟨F, R, E, fF, lF, lR, rO, rP, pE, lE, okE, okL, lL0, okF, tZ, okZ⟩ := parts.out p x (by rw [hns]; exact pl) (by rw [hx.out]; omega)
    rw [hns] at fF lF lR lL0
    rw [hx.out] at rP
    have kE : (k : Int) - x = (k : Int) - x := by omega
    rw [← kE] at pE
    clear kE ca cb
    have few : ∀ t, (posL (R.take t)).length ≤ 250 := fun t => by have := pos_len (R.take t); rw [List.length_take] at this; omega
    have iL : ∀ y ∈ posL R, I64 y := fun y hy => by have := okL y hy; exact ⟨by omega, by omega⟩
    have iE : ∀ y ∈ E, I64 y := fun y hy => by have := okE y hy; exact ⟨by omega, by omega⟩
    have iZ : ∀ y ∈ addZ F (spreadL R E), I64 y := fun y hy => by have := okZ y hy; exact ⟨by omega, by omega⟩
    have lZ : (addZ F (spreadL R E)).length = ns := by rw [addZ_len (by rw [spread_len]; omega)]; exact lF
    have sumA := fun P (hA : At R R.length P) j (hj : j < P.length) => hA.sum (E := E) (show F.length = R.length by omega) hj
    have doneA := fun P Y (hA : At R R.length P) hY => hA.done (Y := Y) (E := E) (show F.length = R.length by omega) hY
    rw [lR] at sumA doneA
    have pL0 := pos_none R
    have et : R.take ns = R := List.take_of_length_le (by omega)
    obtain ⟨Z, hZ⟩ : ∃ Z, addZ F (spreadL R E) = Z := ⟨_, rfl⟩
    simp only [hZ] at tZ okZ iZ lZ sumA doneA
    replace few := Lib.hid few
    replace iL := Lib.hid iL
    replace iE := Lib.hid iE
    replace iZ := Lib.hid iZ
    replace sumA := Lib.hid sumA
    replace doneA := Lib.hid doneA
    replace fF := Lib.hid fF
    replace rO := Lib.hid rO
    replace rP := Lib.hid rP
    replace pE := Lib.hid pE
    replace okE := Lib.hid okE
    replace okF := Lib.hid okF
    replace tZ := Lib.hid tZ
    replace hZ := Lib.hid hZ
    replace et := Lib.hid et
    replace pL0 := Lib.hid pL0
    clear okZ okL
    have R0 := Lib.hid (row_nil w1 w1.heap.size)
    have I0 := Lib.hid (ir_nil w1 w1.heap.size)
    have B0 := Lib.hid (Below.refl w1.heap.size w1)
    obtain ⟨g, hg⟩ : ∃ g, w1.heap.size = g := ⟨_, rfl⟩
    rw [hg] at R0 I0 B0
    have wg : w.heap.size ≤ g := by rw [← hg]; exact B.out.size
    have ltg : b1 < g := by rw [← hg]; exact ltA.out
    replace hg := Lib.hid hg
    have D0 : Hid (∀ q, (Value.slice none 0 0).ownBlock = some q → (Value.slice none 0 0).ownBlock ≠ some q) := Lib.hid (fun q e => by cases e)
    go_wp2_with fail
    clear c1x e1 e1' e2
    go_loopw [17, 18, 19] (fun u v i wr => ∃ (t : Nat) (P : List Nat), i = .int .i64 t ∧ t ≤ ns ∧ Hid (At R t P) ∧ Hid (Row wr g u (posL (R.take t))) ∧ Hid (IR wr g v P) ∧ Hid (∀ q, u.ownBlock = some q → v.ownBlock ≠ some q) ∧ Hid (Below g w1 wr)) (fun _ _ i _ => ns - (intOf i).toNat)
    case atStart => exact ⟨0, [], rfl, by omega, Lib.hid (at_nil R), by rw [pL0.out]; exact R0, I0, D0, B0⟩
    case round =>
      obtain ⟨t, P, rfl, ht, hAt, hL, hP, hne, hB⟩ := hrel
      have hw : g ≤ wr.heap.size := by have q := hB.out.size; rw [hg.out] at q; exact q
      by_cases hlt : t < ns
      · have d1 : decide ((t : Int) < (ns : Int)) = true := decide_eq_true (by omega)
        have d1' : decide (t < ns) = true := decide_eq_true hlt
        have d3 : (t : Int) < (ns : Int) := by omega
        have HW := h1.out.below (show Below w1.heap.size w1 wr by rw [hg.out]; exact hB.out)
        obtain ⟨b1', o1x, ea, q1⟩ := HW.2.2 (by omega)
        injection ea with ea
        injection ea with ea eb
        subst ea; subst eb
        have c1' := q1 t hlt
        have fk := few.out t
        have lP : P.length ≤ 250 := by rw [hAt.out.len]; exact fk
        have aTk := hAt.out.take (show t < R.length by omega)
        have aSk := hAt.out.skip (show t < R.length by omega)
        have mk := pos_more (r := R) (k := t) (by omega)
        have sk := pos_skip (r := R) (k := t) (by omega)
        clear HW q1
        by_cases htp : t = p
        · have dt : ((t : Int) == (p : Int)) = true := by simp [htp]
          have dt2 : (t == p) = true := by simp [htp]
          rw [htp, hx.out, ← htp] at c1'
          have rT := rP.out
          rw [← htp] at rT
          rw [rT] at aTk aSk mk sk
          clear htp rT
          replace aSk := Lib.hid (aSk (by omega))
          replace sk := Lib.hid (sk (by omega))
          clear aTk mk
          go_wp2_with fail
          go_roundw
          case rel => exact ⟨t + 1, P, by go_num, by omega, aSk, by rw [sk.out]; exact hL, hP, hne, hB⟩
          case measure => simp [intOf]; omega
        · have dt : ((t : Int) == (p : Int)) = false := by simp; omega
          have dt2 : (t == p) = false := by simp; omega
          have rT := rO.out t (by rw [hns]; exact hlt) htp
          have xb' := okS.out _ (getD_mem (show t < S.length by omega))
          rw [rT] at aTk aSk mk sk
          clear rT htp
          generalize S.getD t 0 = x' at *
          have d4 : decide (0 < x') = true := decide_eq_true (by omega)
          replace aTk := Lib.hid (aTk (by omega))
          replace mk := Lib.hid (mk (by omega))
          clear aSk sk
          have hz := one_lit wr x' 2 (by omega) (by omega)
          have hb1 : g ≤ (wr.alloc (.cells #[.int .i64 x'] 2)).heap.size := by simp; omega
          have ba := Lib.hid (hB.out.alloc hw (.cells #[.int .i64 x'] 2))
          have hP1 := Lib.hid (hP.out.alloc (.cells #[.int .i64 x'] 2))
          have hL1 := Lib.hid (hL.out.alloc (.cells #[.int .i64 x'] 2))
          replace hz := Lib.hid hz
          go_wp2_with (at_builtin; refine wpList_onto (by rfl) (.tmp 77) (.tmp 79) 22 (by rfl) g i0 Try.underlying22 hi0 hy0 hy1 hy2 _ _ (by rfl) hL1.out _ 1 1 [x'] (by rfl) hz.out (fun e => by cases e) (by omega) hb1 ?_)
          intro v3 w3 r3 g3 o3
          rw [← mk.out] at r3
          have B3 := Lib.hid (ba.out.grown g3 hb1 (fun q hq => (Row.lt hL.out hq).1))
          have P3 := Lib.hid (hP1.out.only (only_grown g3) (fun q hq e => hne.out q e.symm hq))
          have ne3 : Hid (∀ q, v3.ownBlock = some q → u18.ownBlock ≠ some q) := Lib.hid (fun q hq e => by
            rcases o3 with hh | hh
            · rw [hh] at hq; exact hne.out q hq e
            · rw [hh] at hq
              injection hq with hq
              have := (IR.lt hP1.out e).2
              (try simp only [World.size_alloc] at this)
              (try simp only [World.size_alloc] at hq)
              omega)
          replace r3 := Lib.hid r3
          clear g3 o3 hz ba hb1
          have sz3 : g ≤ w3.heap.size := by have q := B3.out.size; rw [hg.out] at q; exact q
          have sz9 : g ≤ (w3.alloc (.cells #[.int .i64 (t : Int)] 3)).heap.size := by simp; omega
          have P9 := Lib.hid (P3.out.alloc (.cells #[.int .i64 (t : Int)] 3))
          have q9 : (w3.alloc (.cells #[.int .i64 (t : Int)] 3)).cell? ⟨w3.heap.size, 0, none⟩ = some (.int .i64 (t : Int)) := by simp
          have b9 := Lib.hid (B3.out.alloc sz3 (.cells #[.int .i64 (t : Int)] 3))
          have r9 := Lib.hid (r3.out.alloc (.cells #[.int .i64 (t : Int)] 3))
          go_wp2_with (at_builtin; refine wpList_onto_i (by rfl) (.tmp 81) (.tmp 83) 37 (by rfl) g i1 Try.underlying37 hi1 hx0 hx1 hx2 _ P (by rfl) P9.out ⟨w3.heap.size, 0, none⟩ 1 t (by rfl) q9 (by omega) sz9 ?_)
          intro v10 w10 r10 g10 o10
          have b10 := Lib.hid (b9.out.grown g10 sz9 (fun q hq => (P3.out.lt hq).1))
          have rr10 := Lib.hid (r9.out.only (only_grown g10) (fun q hq e => ne3.out q hq e.symm))
          have ne10 : Hid (∀ q, v3.ownBlock = some q → v10.ownBlock ≠ some q) := Lib.hid (fun q hq e => by
            rcases o10 with hh | hh
            · rw [hh] at e; exact ne3.out q hq e
            · rw [hh] at e
              injection e with e
              have := (Row.lt r9.out hq).2
              (try simp only [World.size_alloc] at this)
              (try simp only [World.size_alloc] at e)
              omega)
          replace r10 := Lib.hid r10
          clear g10 o10 q9 P9
          go_wp2_with fail
          go_roundw
          case rel => exact ⟨t + 1, P ++ [t], by go_num, by omega, aTk, rr10, r10, ne10, b10⟩
          case measure => simp [intOf]; omega
      · have d1 : decide ((t : Int) < (ns : Int)) = false := decide_eq_false (by omega)
        have d1' : decide (t < ns) = false := decide_eq_false hlt
        have etn : t = ns := by omega
        rw [etn, et.out] at hL
        have hAt2 := hAt.out
        rw [etn] at hAt2
        have lP := hAt2.len
        rw [et.out] at lP
        obtain ⟨nq, hnq⟩ : ∃ nq, (posL R).length = nq := ⟨_, rfl⟩
        rw [hnq] at lP lE lL0
        have eachP : Hid (∀ j, j < nq → P.getD j 0 < ns) := Lib.hid (fun j hj => (hAt2.each j (by omega)).1)
        have injP : Hid (∀ i j, i < nq → j < nq → P.getD i 0 = P.getD j 0 → i = j) := Lib.hid (fun i j hi hj e => hAt2.inj (by omega) (by omega) e)
        have sumP := sumA.out P hAt2
        have doneP := fun Y => doneA.out P Y hAt2
        rw [lP] at sumP doneP
        replace sumP := Lib.hid sumP
        replace doneP := Lib.hid doneP
        obtain ⟨A17, c17, rfl, h17, -, l17, m17, at17⟩ := hL.out.slice iL.out
        obtain ⟨A18, c18, rfl, l18, m18, z18, k18⟩ := hP.out.slice
        rw [hnq] at h17 l17 ⊢
        rw [lP] at l18 k18 ⊢
        have own18 := fun q hq => hP.out.lt (k := q) hq
        replace own18 := Lib.hid own18
        replace h17 := Lib.hid h17
        replace at17 := Lib.hid at17
        replace hnq := Lib.hid hnq
        replace B := Lib.hid (B.out.trans (hB.out.mono wg))
        have h1r := Lib.hid (h1.out.below (show Below w1.heap.size w1 wr by rw [hg.out]; exact hB.out))
        clear h1
        have h1 := h1r
        clear h1r hAt hAt2 etn hL hne hB k18 sumA doneA few rO rP R0 I0 B0 D0 ht hlt
        go_wp2_with (at_make; refine wpList_make_full _ (by rfl) (.tmp 86) (.tmp 86) 22 (by rfl) wr.heap.size 2 i0 (.int .i64 0) 1 Try.underlying22 hi0 hy0 hy1 .i64 .i64 _ _ ns (by rfl) (by rfl) rfl rfl (by rw [hy2]; omega) (by unfold maxLen; omega) (Nat.le_refl _) ?_)
        intro w4 r4 g4
        have R4 := Lib.hid (row_made r4)
        have B4 : Hid (Below wr.heap.size wr w4) := Lib.hid ((Below.refl _ wr).grown g4 (Nat.le_refl _) (fun k e => by cases e))
        obtain ⟨gw, hgw⟩ : ∃ gw, wr.heap.size = gw := ⟨_, rfl⟩
        rw [hgw] at R4 B4
        have hw2 : g ≤ gw := by rw [← hgw]; exact hw
        obtain ⟨g', cap', e', -, hgl, hcc, hcm, hfz, hcl2⟩ := R4.out.open' (by simp; omega)
        rw [List.length_replicate] at e' hcl2
        injection e' with ex1 ex2 ex3
        injection ex1 with ex1
        injection ex1 with ex1
        subst ex1; subst ex3
        have hfk := hfz p
        have hck0 := hcl2 p pl
        have Rs := R4.out.set (k := p) (by simp; omega) x
        rw [fF.out] at Rs
        replace Rs := Lib.hid Rs
        have Bs : Hid (Below gw wr (w4.setCell ⟨gw, p, none⟩ (.int .i64 x))) := Lib.hid (B4.out.trans ((set_only w4 gw p (.int .i64 x)).below (B := gw) (by have q := B4.out.size; rw [hgw] at q; exact q) (fun j hj e => by omega)))
        have szs : gw < (w4.setCell ⟨gw, p, none⟩ (.int .i64 x)).heap.size := by simpa using hgl
        clear r4 g4 hfz hcl2 R4 B4
        go_wp2_with fail
        replace hgw := Lib.hid hgw
        (try rw [hgw.out])
        obtain ⟨w5, hw5⟩ : ∃ w5, w4.setCell ⟨gw, p, none⟩ (.int .i64 x) = w5 := ⟨_, rfl⟩
        rw [hw5] at Rs Bs szs ⊢
        clear hw5 hfk hck0
        have Bs' : Below wr.heap.size wr w5 := by rw [hgw.out]; exact Bs.out
        have h15 := Lib.hid (h1.out.below Bs')
        have h175 := Lib.hid (h17.out.below Bs')
        have hP5 := Lib.hid (hP.out.below Bs')
        replace B := Lib.hid (below_up B.out Bs')
        clear h1 h17 hP Bs Bs'
        have HS := PPlain_any A17 nq c17 (posL R) (1 + (j : Int)) ((k : Int) - x) w5 (by omega) (by omega) (by omega) (by omega) (by omega) h175
        rw [pE.out] at HS
        replace HS := Lib.hid HS
        refine HS.out.mono ?_
        rintro e w6 ⟨v, rfl, rr, bb⟩
        obtain ⟨A22, c22, rfl, h22, z22, l22, m22, at22⟩ := rr.slice iE.out
        rw [lE] at h22 l22 ⊢
        have h16 := Lib.hid (h15.out.below bb)
        have hP6 := Lib.hid (hP5.out.below bb)
        have Rs6 := Lib.hid (Rs.out.below bb)
        replace B := Lib.hid (below_up B.out bb)
        replace h22 := Lib.hid h22
        have at22' : Hid (∀ ad, A22 = some ad → gw < ad.block) := Lib.hid (fun ad e => by have := (at22 ad e).1; omega)
        clear HS rr bb at22 z22 h15 h175 hP5 Rs szs
        have dq : ((nq : Int) != (nq : Int)) = false := by simp
        have dq2 : (nq != nq) = false := by simp
        have Y0 := Lib.hid (added_zero F Z P ns lF)
        have O0 := Lib.hid (Only.refl (fun q => q = gw) w6)
        go_wp2_with fail
        clear dq dq2 d1 d1'
        go_loopw [23] (fun i wr => ∃ (t : Nat) (Y : List Int), i = .int .i64 t ∧ t ≤ nq ∧ Hid (AddedX F Z P ns t Y) ∧ Hid (Row wr gw (.slice (some ⟨gw, 0, none⟩) ns ns) Y) ∧ Hid (Only (fun q => q = gw) w6 wr)) (fun i _ => (nq - intOf i).toNat)
        case atStart => exact ⟨0, F, rfl, by omega, Y0, Rs6, O0⟩
        case round =>
          rename World => wr3
          obtain ⟨t3, Y, rfl, ht3, hY, hR7, hO⟩ := hrel
          by_cases hlt : t3 < nq
          · have d1 : decide ((t3 : Int) < (nq : Int)) = true := decide_eq_true (by omega)
            have d1' : decide (t3 < nq) = true := decide_eq_true hlt
            have d3 : (t3 : Int) < (nq : Int) := by omega
            have hpp := eachP.out t3 hlt
            have lY := hY.out.1.1
            obtain ⟨ga, ca, ev, gb1, gb2, -, -, hfz, hcl⟩ := hR7.out.open' (by omega)
            rw [lY] at ev
            injection ev with ev _ ev3
            injection ev with ev
            injection ev with ev
            subst ev; subst ev3
            have hAt6 := hP6.out.only hO.out (fun q hq e => by have := (own18.out q hq).2; have := hgw.out; omega)
            obtain ⟨A18', c18', e14, -, -, -, k18⟩ := hAt6.slice
            injection e14 with e14 e14a e14b
            subst e14; subst e14b
            rw [lP] at k18
            obtain ⟨ge, rfl, x14⟩ := k18 t3 hlt
            have H22 := h22.out.only hO.out (fun ad e q => by have := at22'.out ad e; omega)
            obtain ⟨b16, o16, rfl, k16⟩ := H22.2.2 (by omega)
            have x16 := k16 t3 hlt
            have s1' := sumP.out t3 hlt
            have hG2 := hY.out.1.2 (P.getD t3 0) hpp (fun i hi e => by have := injP.out i t3 (by omega) hlt e; omega)
            have xa := hcl (P.getD t3 0) (by omega)
            rw [hG2] at xa
            have bE1 := okE.out _ (getD_mem (show t3 < E.length by omega))
            have bF1 := okF.out _ (getD_mem (show P.getD t3 0 < F.length by omega))
            have nxt := hY.out.next hpp s1' (fun i hi e => by have := injP.out i t3 (by omega) hlt e; omega)
            have rset := (show Row wr3.drew gw _ Y from hR7.out).set (k := P.getD t3 0) (by omega) (F.getD (P.getD t3 0) 0 + E.getD t3 0)
            have oset := (hO.out.drewN 1).trans (set_only wr3.drew gw (P.getD t3 0) (.int .i64 (F.getD (P.getD t3 0) 0 + E.getD t3 0)))
            have fz := hfz (P.getD t3 0)
            replace nxt := Lib.hid nxt
            replace rset := Lib.hid rset
            replace oset := Lib.hid oset
            clear hcl hfz k18 k16 hG2 s1' e14a hAt6 H22
            generalize P.getD t3 0 = pp at *
            generalize F.getD pp 0 = y1 at *
            generalize E.getD t3 0 = y2 at *
            have d4 : (pp : Int) < (ns : Int) := by omega
            have wr1 : IntKind.i64.wrap (y1 + y2) = y1 + y2 := IntWalk.i64_in _ (by omega)
            go_wp2_with fail
            go_still_tail 18, (by kernel_rfl)
            have fz2 : wr3.drew.frozen? ⟨gw, pp, none⟩ = false := fz
            have xa2 : wr3.drew.cell? ⟨gw, pp, none⟩ = some (.int .i64 y1) := xa
            change wpList _ _ _ _ _ wr3.drew
            generalize wr3.drew = wd at *
            clear fz xa x14 x16
            go_wp2_with fail
            go_roundw
            case rel => exact ⟨t3 + 1, Y.set pp (y1 + y2), by go_num, by omega, nxt, rset, oset⟩
            case measure => simp [intOf]; omega
          · have et3 : t3 = nq := by omega
            have d1 : decide ((t3 : Int) < (nq : Int)) = false := decide_eq_false (by omega)
            have d1' : decide (t3 < nq) = false := decide_eq_false (by omega)
            have hYZ : Y = Z := doneP.out Y (by rw [← et3]; exact hY.out)
            rw [hYZ] at hR7
            obtain ⟨A27, c27, e27, h27, -, -, -, -⟩ := hR7.out.slice iZ.out
            rw [lZ] at e27 h27
            injection e27 with e27a e27b e27c
            subst e27a; subst e27c
            replace h27 := Lib.hid h27
            have h17' := Lib.hid (h16.out.only hO.out (fun ad e q => by injection e with e; subst e; have q' : b1 = gw := q; omega))
            replace B := Lib.hid (B.out.trans (hO.out.below (B := w.heap.size) B.out.size (fun q hq e => by omega)))
            clear hYZ hY hR7 hO et3
            have HS := PShare_any (some ⟨b1, o1', none⟩) ns c1 S (p : Int) (m : Int) (1 + (j : Int)) (k : Int) wr3 (by omega) (by omega) (by omega) (by omega) (by omega) (by omega) (by omega) (by omega) (by omega) h17'
            rw [tZ.out] at HS
            replace HS := Lib.hid HS
            go_wp2_with fail
            refine HS.out.mono ?_
            rintro e w8 ⟨v, rfl, rr, bb⟩
            obtain ⟨A8, c8, rfl, h8, zA8, lA8, mA8, atA8⟩ := rr.slice iZ.out
            rw [lZ] at h8 lA8 ⊢
            replace h8 := Lib.hid h8
            replace h27 := Lib.hid (h27.out.below bb)
            replace B := Lib.hid (below_up B.out bb)
            clear HS rr bb atA8 zA8
            go_wp2_with fail
            refine (Same_yes A8 (some ⟨gw, 0, none⟩) ns c8 ns Z w8 (by omega) h8 h27).mono ?_
            rintro e wx ⟨rfl, dd, rfl⟩
            replace B := Lib.hid (below_drewN B.out dd)
            obtain ⟨w9, hnw⟩ : ∃ wn, w8.drewN dd = wn := ⟨_, rfl⟩
            rw [hnw] at B ⊢
            clear hnw 
            go_wp2_with fail
            refine (Known_any _).mono ?_
            rintro e wz ⟨rfl, bz⟩
            replace B := Lib.hid (below_up B.out bz)
            clear bz
            go_wp2_with fail
            go_ret
            exact ⟨rfl, B.out⟩
end Go.Proofs.Ytoflnfdkcbpgeaa
