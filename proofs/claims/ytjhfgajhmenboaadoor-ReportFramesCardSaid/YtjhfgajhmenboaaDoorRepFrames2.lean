/-
  The law ReportFrames: a list that is cut.
-/
import Derived.Test.YtjhfgajhmenboaaDoorRepLaw
import Derived.Test.YtjhfgajhmenboaaDoorRepFacts
import Derived.Laws.BitsAllLaws
namespace Go.Proofs.YtjhfgajhmenboaaDoor
open Go.RowKit
set_option linter.unusedVariables false
set_option linter.unusedSimpArgs false

set_option maxRecDepth 100000 in
set_option maxHeartbeats 6400000 in
theorem Frames_way2 (A0 : Option Addr) (n0 cap0 : Nat) (L0 : List Q) (A : Option Addr) (nb0 capb : Nat) (lbs : List UInt8) (w : World) (hH0 : Hid (HR w A0 n0 L0)) (hO0 : OkL L0) (p1 : n0 ≤ cap0) (p2 : cap0 ≤ 9223372036854775807) (hA : Hid (HB w A nb0 lbs)) (hAt : Hid (∀ ad, A = some ad → ad.block < w.heap.size ∧ ad.spot = none)) (q1 : nb0 ≤ capb) (q2 : capb ≤ 9223372036854775807) (q3 : Hid (A = none → capb = 0)) (h0 : 10 < n0) (hT : Hid (Tab w)) :
    Calls Tryd.prog 6 #[.slice A0 n0 cap0, .slice A nb0 capb] w fun e w' => e = .returned (.bool true) ∧ Below w.heap.size w w' := by
  obtain ⟨i0, hi0, hz0, hz1, hz2⟩ := info_parts info_u8
  have dcut : decide ((10 : Int) < (n0 : Int)) = true := decide_eq_true (by omega)
  have dcut' : (10 : Int) < (n0 : Int) := by omega
  obtain ⟨bh, oh, rfl, -⟩ := hH0.out.2 0 (by omega)
  have hH : Hid (HR w (some ⟨bh, oh, none⟩) 10 (L0.take 10)) := Lib.hid (hH0.out.take (by omega))
  have hO : Hid (OkL (L0.take 10)) := Lib.hid (hO0.take 10)
  obtain ⟨L, eL⟩ : ∃ L, L0.take 10 = L := ⟨_, rfl⟩
  rw [eL] at hH hO
  have hc15 : 10 ≤ cap0 := by omega
  clear eL hO0 hH0
  have hRP := PAll_any (some ⟨bh, oh, none⟩) 10 cap0 L w (by omega) (by omega) p2 hH hO
  have hLl := hH.out.1
  have hgl := goodL_len L
  have hGO := goodL_ok hO.out
  have hGR := goodL_right (L := L)
  rw [allQ_good] at hRP
  obtain ⟨G, eG⟩ : ∃ G, goodL L = G := ⟨_, rfl⟩
  rw [eG] at hRP hgl hGO hGR
  have hGl : G.length ≤ 10 := by omega
  have hTl := frsL_len G
  obtain ⟨T, eT⟩ : ∃ T, frsL G = T := ⟨_, rfl⟩
  rw [eT] at hRP hTl
  have eT := Lib.hid eT
  have hGO := Lib.hid hGO
  have hGR := Lib.hid hGR
  have hRP := Lib.hid hRP
  clear eG hgl hLl hO hH
  go_enter Tryd.func6, Tryd.ntmps6
  go_wp2_with fail
  refine hRP.out.mono ?_
  rintro e w1 ⟨v1, rfl, R1, b1⟩
  have B1 := Lib.hid b1
  obtain ⟨A1, n1, c1, rfl, en1, S1⟩ := R1.src (by omega)
  replace S1 := Lib.hid S1
  have hn1 : n1 = 42 * G.length := by omega
  have hn1' := Lib.hid hn1
  have hnb : n1 ≤ 420 := by omega
  obtain ⟨gl, egl⟩ : ∃ gl, G.length = gl := ⟨_, rfl⟩
  rw [egl] at hn1 hGl
  have egl := Lib.hid egl
  clear R1 b1 hRP en1 hTl
  have hT1 := Lib.hid (hT.out.below B1.out)
  have bb1 := Lib.hid (Below.refl w1.heap.size w1)
  replace hn1 := Lib.hid hn1
  go_wp2_with fail
  go_loopw [6, 7] (fun nv av wr => ∃ k P : Nat, nv = .int .i64 k ∧ av = .int .i64 P ∧ P = 42 * k ∧ k ≤ gl ∧ Hid (Below w1.heap.size w1 wr)) (fun nv _ _ => (gl - intOf nv).toNat)
  case atStart => exact ⟨0, 0, rfl, rfl, rfl, by omega, bb1⟩
  case round =>
    clear bb1
    obtain ⟨k, P, rfl, rfl, hP, hk, hW⟩ := hrel
    have hs1 := Lib.hid (S1.out.below hW.out)
    by_cases hlt : k < gl
    · have d1 : decide ((P : Int) < (n1 : Int)) = true := decide_eq_true (by have := hn1.out; omega)
      have hPn : P < n1 := by have := hn1.out; omega
      have ho : openR T (P : Int) = (encQ (G.getD k zeroQ), 42 * (k + 1), 0) := by
        have := frs_open (R := G) (k := k) (by rw [egl.out]; exact hlt) []
        rw [List.append_nil, eT.out] at this
        rw [hP]; exact this
      have hm : G.getD k zeroQ ∈ G := by
        have : k < G.length := by rw [egl.out]; exact hlt
        rw [show G.getD k zeroQ = G[k] by simp [List.getD, List.getElem?_eq_getElem this]]
        exact List.getElem_mem this
      obtain ⟨hd, -⟩ := enc_read (hGO.out _ hm) (hGR.out _ hm)
      have hel := encQ_len (G.getD k zeroQ)
      obtain ⟨c, ec⟩ : ∃ c, encQ (G.getD k zeroQ) = c := ⟨_, rfl⟩
      rw [ec] at ho hd hel
      obtain ⟨E, eE⟩ : ∃ E, 42 * (k + 1) = E := ⟨_, rfl⟩
      rw [eE] at ho
      have hEP : P < E := by omega
      have hE2 := Lib.hid (show E = 42 * (k + 1) by omega)
      have hP' := Lib.hid hP
      have ho := Lib.hid ho
      have hd := Lib.hid hd
      clear ec eE hm hP
      go_wp2_with fail
      refine (Open_any A1 n1 c1 T (P : Int) wr (by omega) hs1.out.ncap hs1.out.cmax hs1.out.none0 (Lib.hid hs1.out.hb)).mono ?_
      rintro e w2 ⟨v2, rfl, r2, b2⟩
      rw [ho.out] at r2 ⊢
      obtain ⟨A2, n2, c2, rfl, H2, -, -, -, h24⟩ := r2.slice
      have H2 := Lib.hid H2
      have B2 := Lib.hid (below_up hW.out b2)
      clear r2 b2 hW hs1
      have hn2 : n2 ≤ 100 := by simp only at h24; omega
      clear h24
      go_wp2_with fail
      refine (PDecode_any A2 n2 c2 c w2 (by omega) H2).mono ?_
      rintro e w3 ⟨rfl, b3⟩
      rw [decE_yes hd.out]
      have B3 := Lib.hid (below_up B2.out b3)
      clear b3 B2 H2
      obtain ⟨rd, erd⟩ : ∃ r, decQ c = r := ⟨_, rfl⟩
      rw [erd]
      clear erd
      obtain ⟨k', i', n', s', p', q', l', y'⟩ := rd
      rw [show (Q.mk k' i' n' s' p' q' l' y').val = .agg #[.int .i64 k', .int .i64 i', .int .i64 n', .int .i64 s', .int .i64 p', .int .i64 q', .int .i64 l', .int .i64 y'] from rfl]
      have B4 : Hid (Below w1.heap.size w1 (w3.alloc (.cells #[.int .i64 k', .int .i64 i', .int .i64 n', .int .i64 s', .int .i64 p', .int .i64 q', .int .i64 l', .int .i64 y'] 25))) := Lib.hid (B3.out.alloc B3.out.size _)
      have d5 : decide ((E : Int) ≤ (P : Int)) = false := decide_eq_false (by omega)
      have d5' : ¬ E ≤ P := by omega
      have d5' : decide (E ≤ P) = false := decide_eq_false (by omega)
      go_wp2_with fail
      go_roundw
      case rel => exact ⟨k + 1, E, by go_num, rfl, hE2.out, by omega, B4⟩
      case measure => simp [intOf]; omega
    · obtain rfl : k = gl := by omega
      have d1 : decide ((P : Int) < (n1 : Int)) = false := decide_eq_false (by have := hn1.out; omega)
      have hPn : ¬ P < n1 := by have := hn1.out; omega
      have hB := Lib.hid (B1.out.trans (hW.out.mono B1.out.size))
      have hs2 := Lib.hid (Src.take 20 (hA.out.below hB.out) (fun ad e => ⟨Nat.lt_of_lt_of_le (hAt.out ad e).1 hB.out.size, (hAt.out ad e).2⟩) q1 q2 q3.out (by omega))
      have hcl : (lbs.take 20).length ≤ 20 := by rw [List.length_take]; omega
      have hAp : Hid (0 < nb0 → ∃ b off, A = some ⟨b, off, none⟩) := Lib.hid (fun h0 => by obtain ⟨b, off, e, _⟩ := hA.out.2 h0; exact ⟨b, off, e⟩)
      have HK := fun W => KCut_any A nb0 capb 20 W (by omega) (by omega) q1 q2 hAp.out
      obtain ⟨c, ec⟩ : ∃ c, lbs.take 20 = c := ⟨_, rfl⟩
      rw [ec] at hs2 hcl
      obtain ⟨m, em⟩ : ∃ m, min nb0 20 = m := ⟨_, rfl⟩
      rw [em] at hs2
      simp only [em] at HK
      have hm20 : m ≤ 20 := by omega
      replace HK := Lib.hid HK
      clear ec em hAp hP
      go_wp2_with fail
      refine (HK.out _).mono ?_
      rintro e w6 ⟨rfl, rfl⟩
      go_wp2_with fail
      refine (PDecode_any A m capb c _ (by omega) (Lib.hid hs2.out.hb)).mono ?_
      rintro e w3 ⟨rfl, b3⟩
      have B3 := Lib.hid (below_up hB.out b3)
      have hs1' := Lib.hid (hs1.out.below b3)
      have hs3 := Lib.hid (hs2.out.below b3)
      clear b3 hB hs1 hs2
      obtain ⟨D, eD⟩ : ∃ D, decE c = D := ⟨_, rfl⟩
      obtain ⟨rd, erd⟩ : ∃ r, decQ c = r := ⟨_, rfl⟩
      rw [eD, erd]
      have eD := Lib.hid eD
      clear erd
      obtain ⟨k', i', n', s', p', q', l', y'⟩ := rd
      rw [show (Q.mk k' i' n' s' p' q' l' y').val = .agg #[.int .i64 k', .int .i64 i', .int .i64 n', .int .i64 s', .int .i64 p', .int .i64 q', .int .i64 l', .int .i64 y'] from rfl]
      obtain ⟨w4, ew4⟩ : ∃ W, w3.alloc (.cells #[.int .i64 k', .int .i64 i', .int .i64 n', .int .i64 s', .int .i64 p', .int .i64 q', .int .i64 l', .int .i64 y'] 25) = W := ⟨_, rfl⟩
      have al : Below w3.heap.size w3 w4 := by rw [← ew4]; exact (Below.refl _ w3).alloc (Nat.le_refl _) _
      have B4 := Lib.hid (below_up B3.out al)
      have hs4 := Lib.hid (hs3.out.below al)
      have hx4 := Lib.hid (hs1'.out.below al)
      clear al hs3 hs1' B3
      go_upto_region 13 with (fail)
      clear ew4
      go_wp2_with fail
      refine (HK.out _).mono ?_
      rintro e w6 ⟨rfl, rfl⟩
      go_wp2_with fail
      refine (Frame_any A m capb c w6 (by omega) hs4.out.none0 (Lib.hid hs4.out.hb)).mono ?_
      rintro e w7 ⟨v7, rfl, R7, b7⟩
      obtain ⟨A7, n7, c7, rfl, H7, h71, h72, h73, h74⟩ := R7.slice
      have hfl := frameL_len c
      have hn7 : n7 ≤ 26 := by omega
      have B7 := Lib.hid (below_up B4.out b7)
      have hx7 := Lib.hid (hx4.out.below b7)
      have H7 := Lib.hid H7
      clear R7 b7 hs4 hx4 h72 h73 B4 HK
      have e0 := Lib.hid (rb_empty w7)
      have C8 : Hid (Below w7.heap.size w7 (w7.alloc (.cells #[] 5))) := Lib.hid ((Below.refl _ w7).alloc (Nat.le_refl _) _)
      have hx8 := Lib.hid (hx7.out.below C8.out)
      have hg8 := Lib.hid C8.out.size
      go_wp2_with (at_builtin; refine wpList_onto_b (by rfl) (.tmp 69) (.tmp 70) 26 (by rfl) w7.heap.size i0 Tryd.underlying26 hi0 hz0 hz1 hz2 _ [] (by rfl) e0.out A1 n1 c1 T (by rfl) hx8.out.hb hx8.out.none0 (by simp; omega) hg8.out ?_)
      intro v9 w9 r9 g9 o9
      have C9 := Lib.hid (C8.out.grown g9 C8.out.size (fun q hq => (e0.out.blk hq).1))
      have r9 : Hid (RB w9 w7.heap.size v9 T) := Lib.hid r9
      have hx9 := Lib.hid (hx7.out.below C9.out)
      have H9 := Lib.hid (H7.out.below C9.out)
      have hg9 := Lib.hid C9.out.size
      have hTl : T.length = n1 := hx9.out.hb.1
      clear g9 o9 hx8 C8 hg8 e0
      have hTl := Lib.hid hTl
      go_wp2_with (at_builtin; refine wpList_onto_b (by rfl) (.tmp 71) (.tmp 72) 26 (by rfl) w7.heap.size i0 Tryd.underlying26 hi0 hz0 hz1 hz2 _ T (by rfl) r9.out A7 n7 c7 (frameL c) (by rfl) H9.out h71 (by have := hTl.out; omega) hg9.out ?_)
      intro v10 w10 r10 g10 o10
      have C10 := Lib.hid (C9.out.grown g10 C9.out.size (fun q hq => (r9.out.blk hq).1))
      have r10 := Lib.hid r10
      have hx10 := Lib.hid (hx7.out.below C10.out)
      have hg10 := Lib.hid C10.out.size
      clear g10 o10 hx9 C9 hg9 r9 H9
      go_wp2_with (at_builtin; refine wpList_onto_b (by rfl) (.tmp 73) (.tmp 74) 26 (by rfl) w7.heap.size i0 Tryd.underlying26 hi0 hz0 hz1 hz2 _ (T ++ frameL c) (by rfl) r10.out A1 n1 c1 T (by rfl) hx10.out.hb hx10.out.none0 (by have := hTl.out; rw [List.length_append]; omega) hg10.out ?_)
      intro v11 w11 r11 g11 o11
      have C11 := Lib.hid (C10.out.grown g11 C10.out.size (fun q hq => (r10.out.blk hq).1))
      have B11 := Lib.hid (below_up B7.out C11.out)
      have hbad := fun hd => read_bad hGO.out hGR.out (c := c) (by omega) hd T
      rw [eT.out] at hbad
      obtain ⟨U, eU⟩ : ∃ U, T ++ (frameL c ++ T) = U := ⟨_, rfl⟩
      have hUl : U.length ≤ 1000 := by have := hTl.out; rw [← eU, List.length_append, List.length_append]; omega
      rw [eU] at r11 hbad
      have hbad := Lib.hid hbad
      obtain ⟨A11, n11, c11, rfl, H11, j1, j2, j3, j4⟩ := r11.slice
      have H11 := Lib.hid H11
      have hn11 : n11 ≤ 1000 := by omega
      clear g11 o11 hx10 C10 hg10 r10 eU r11 j4
      go_wp2_with fail
      refine (PRead_all A11 n11 c11 U w11 (by omega) j2 j3 j1 H11).mono ?_
      rintro e w12 ⟨v12, rfl, R12, b12⟩
      obtain ⟨X, z, eX⟩ : ∃ X z, readL U = (X, z) := ⟨_, _, rfl⟩
      rw [eX] at R12 hbad ⊢
      have B12 := Lib.hid (below_up B11.out b12)
      obtain ⟨A12, n12, c12, rfl, H12, -, -, -, k12⟩ := R12.slice
      have hTz := Lib.hid (hT.out.below B12.out)
      clear R12 b12 eX B11 C11 H11 H12
      by_cases hd : decOk c
      · have hD : D = 0 := by rw [← eD.out, decE_yes hd]
        subst hD
        clear hbad
        go_wp2_with fail
        refine (Known_any _ hTz).mono ?_
        rintro e w13 ⟨rfl, b13⟩
        have B13 := Lib.hid (below_up B12.out b13)
        go_wp2_with fail
        go_ret
        exact ⟨rfl, B13.out⟩
      · have hD : D = 12 := by rw [← eD.out, decE_no hd]
        subst hD
        have hXz := hbad.out hd
        injection hXz with hX hz
        subst hz
        have hnk : n12 = k := by rw [← k12, hX, egl.out]
        clear hbad hX k12
        subst hnk
        have ekk : ((n12 : Int) == (n12 : Int)) = true := by simp
        go_wp2_with fail
        refine (Known_any _ hTz).mono ?_
        rintro e w13 ⟨rfl, b13⟩
        have B13 := Lib.hid (below_up B12.out b13)
        go_wp2_with fail
        go_ret
        exact ⟨rfl, B13.out⟩
end Go.Proofs.YtjhfgajhmenboaaDoor
