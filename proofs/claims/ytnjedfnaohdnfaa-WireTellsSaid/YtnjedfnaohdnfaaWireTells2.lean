/-
  The law WireTells: one way to the lists' lengths.
-/
import Derived.Test.YtnjedfnaohdnfaaParts
import Derived.Test.YtnjedfnaohdnfaaFrames
import Derived.Deep.CutRange
import Derived.Deep.RegionWith
namespace Go.Proofs.Ytnjedfnaohdnfaa
open Go.RowKit
set_option linter.unusedVariables false
set_option linter.unusedSimpArgs false

set_option maxRecDepth 100000 in
set_option maxHeartbeats 1600000 in
theorem Tells_way2 (a0 a1 a2 : Option Addr) (len0 cap0 len1 cap1 m cb : Nat) (K N : Nat → Int) (S : Nat → List UInt8) (Q : Nat → Int) (lm : List UInt8) (at_ : Int) (t : UInt8) (w : World)
    (c0 : cap0 ≤ 9223372036854775807) (l0 : len0 ≤ cap0) (c1 : cap1 ≤ 9223372036854775807) (l1 : len1 ≤ cap1) (hm : m ≤ cb) (hcb : cb ≤ 9223372036854775807) (hB : a2 = none → m = 0 ∧ cb = 0)
    (hP : Hid (Parts w a0 len0 K N S)) (hQ : Hid (Nums w a1 len1 Q)) (hb : Hid (HB w a2 m lm)) (t1 : -9223372036854775808 ≤ at_) (t2 : at_ ≤ 9223372036854775807) (h0 : len0 ≤ 20) (h1 : 30 < len1) :
    Calls Try.prog 4 #[.slice a0 len0 cap0, .slice a1 len1 cap1, .slice a2 m cb, .int .i64 at_, .int .u8 t.toNat] w fun e w' => e = .returned (.bool true) ∧ Below w.heap.size w w' := by
  obtain ⟨i0, hi0, hz0, hz1, hz2⟩ := info_parts info_u8
  have HBm := Lib.hid (hb.out.take (k := min m 100) (by omega))
  go_enter Try.func4, Try.ntmps4
  go_wp2_with fail
  refine (NewWriter_any _).mono ?_
  rintro e w1 ⟨rfl, W1, b1⟩
  have B1 : Hid (Both w.heap.size w.heap.size (.slice none 0 0) (.slice none 0 0) [] w1) := Lib.hid ⟨W1, rb_nil _ _, fun k e => by cases e⟩
  have b1 := Lib.hid b1
  clear W1
  obtain ⟨g, eg⟩ : ∃ g, w.heap.size = g := ⟨_, rfl⟩
  have eg := Lib.hid eg
  go_wp2_with fail
  rw [eg.out] at B1
  go_loopw [12, 13] (fun r i wr => ∃ (k : Nat) (v : Value) (xs : List UInt8), i = .int .i64 k ∧ k ≤ len0 ∧ Hid (Both g g v r xs wr) ∧ Hid (Below w.heap.size w wr) ∧ xs.length ≤ 256 * k) (fun _ i _ => (len0 - intOf i).toNat)
  case atStart => exact ⟨0, _, [], rfl, by omega, B1, b1, by simp⟩
  case round =>
    clear B1 b1
    obtain ⟨k, v, xs, rfl, hk, hD, hW, hx⟩ := hrel
    by_cases hlt : k < len0
    · have d1 : decide ((k : Int) < (len0 : Int)) = true := decide_eq_true (by omega)
      have d2 : decide ((k : Int) < 20) = true := decide_eq_true (by omega)
      obtain ⟨pb, po, rfl, k1, k2, k3, n1, n2⟩ := hP.out.below hW.out k (by omega)
      go_wp2_with fail
      refine (Put_any g g v _ xs (S k) (K k) (N k) wr hD (by omega) n1 n2).mono ?_
      rintro e w2 ⟨v2, r2, rfl, D2, O2, F2⟩
      have bW : Hid (Below w.heap.size w w2) := Lib.hid (hW.out.trans (O2.below hW.out.size (fun j hj e => by
        rcases e with e | e
        · rw [← eg.out] at e; omega
        · have := (hD.out.own.row.blk e.symm).1
          rw [← eg.out] at this; omega)))
      have hlen : (xs ++ partL (K k) (N k) (S k)).length ≤ 256 * (k + 1) := by rw [List.length_append]; have := partL_len (K k) (N k) (S k); omega
      have D2 := Lib.hid D2
      clear O2 F2 k1 k2 k3
      go_wp2_with fail
      go_roundw
      case rel => exact ⟨k + 1, v2, _, by go_num, by omega, D2, bW, hlen⟩
      case measure => simp [intOf]; omega
    · obtain rfl : k = len0 := by omega
      have d1 : decide ((k : Int) < (k : Int)) = false := decide_eq_false (by omega)
      have hx : xs.length ≤ 6000 := by omega
      clear hk hlt
      obtain ⟨A2, n2, cp2, er, H2, h21, h22, h23, hl2⟩ := hD.out.doc.slice
      subst er
      have H2 := Lib.hid H2
      have hs : Hid (∀ W, Below wr.heap.size wr W → (convert 22 9 (.slice A2 n2 cp2)).run Try.prog W = .ok (.string (str xs)) W) := Lib.hid (fun W hW => (H2.out.below hW).str cp2)
      go_upto_region 9 with (fail)
      have hs2 := hs.out wr.drew ((Below.refl _ wr).drew)
      have hDn : Hid (∀ W, Below wr.heap.size wr W → Calls Try.prog 16 #[.pointer (some ⟨g, 0, none⟩)] W fun e w' => ∃ Ad nd cd, e = .returned (.slice Ad nd cd) ∧ HB w' Ad nd xs ∧ Below wr.heap.size wr w') := Lib.hid (fun W hW => by
        refine (Done_any g g v xs W (Lib.hid (hD.out.own.below hW)) (by omega)).mono ?_
        rintro e w' ⟨r, rfl, hr, hb⟩
        obtain ⟨Ad, nd, cd, rfl, Hd, -, -, -, -⟩ := hr.slice
        exact ⟨Ad, nd, cd, rfl, Hd, below_on hW hb⟩)
      go_cut [43] from 38 to 43 (fun c wx => c = .bool false ∧ Hid (Below wr.heap.size wr wx))
      case first =>
        go_region_with (first
          | (go_at_call 16; refine (hDn.out _ ((Below.refl _ wr).drew)).mono ?_; rintro e w'' ⟨Ad, nd, cd, rfl, Hd, hz⟩; have hs3 := Hd.str cd; have hs4 := hs.out _ hz; have hz := Lib.hid hz; have Hd := Lib.hid Hd))
        all_goals go_wp2_with fail
        all_goals go_meet
        all_goals exact ⟨rfl, by assumption⟩
      case rest =>
        obtain ⟨rfl, hBw⟩ := hcut
        have RD := Lib.hid (hD.out.doc.only (only_below hBw.out) (fun _ _ e => e))
        have BW := Lib.hid (below_up hW.out hBw.out)
        have M3 := Lib.hid (HBm.out.below BW.out)
        clear hDn hs2 hs hD hW H2 hBw
        by_cases h0 : 0 < n2
        · obtain ⟨gx, rfl, -, h23'⟩ := rb_some' RD.out (by omega)
          obtain ⟨q0, eq0⟩ : ∃ q0, n2 = q0 + 1 := ⟨n2 - 1, by omega⟩
          have hq0 : q0 ≤ 6000 := by omega
          have hj := withinN_le at_ q0
          obtain ⟨j, ej⟩ : ∃ j, withinN at_ q0 = j := ⟨_, rfl⟩
          have hWi := fun W => Within_any at_ q0 W (by omega) t1 t2
          rw [ej] at hj hWi
          obtain ⟨kc, kf⟩ := rb_cell hl2 RD.out j (by omega)
          have s5 := rb_stored hl2 RD.out j (xs.getD j 0 ^^^ t)
          have yx := u8_xor_byte (xs.getD j 0) t
          have hjj : (j : Int) < (n2 : Int) := by omega
          have B6 := Below.setCell BW.out (p := ⟨gx, j, none⟩) (by rw [eg.out]; exact (RD.out.blk (k := gx) rfl).1) (bc (xs.getD j 0 ^^^ t))
          obtain ⟨z, ez⟩ : ∃ z, xs.getD j 0 ^^^ t = z := ⟨_, rfl⟩
          obtain ⟨y, ey⟩ : ∃ y, xs.getD j 0 = y := ⟨_, rfl⟩
          rw [ez, ey] at yx
          rw [ey] at kc
          rw [ez] at s5 B6
          clear ez ey ej
          have yl : y.toNat < 256 := by have := y.toNat_lt; omega
          have tl : t.toNat < 256 := by have := t.toNat_lt; omega
          have hxl : (xs.set j z).length = n2 := by rw [List.length_set]; exact hl2
          unfold bc at kc B6
          have R6 := Lib.hid s5.1
          have B6 := Lib.hid B6
          have hWi := Lib.hid hWi
          have M6 := Lib.hid (HBm.out.below B6.out)
          clear s5 RD BW M3
          have hnx : (n2 : Int) - 1 = (q0 : Int) := by omega
          clear eq0
          go_upto_region 13 with (go_at_call 17; refine (hWi.out _).mono ?_; rintro e wc ⟨rfl, rfl⟩)
          obtain ⟨W6, eW⟩ : ∃ W6, wc.setCell ⟨gx, j, none⟩ (.int .u8 z.toNat) = W6 := ⟨_, rfl⟩
          unfold bc at R6
          rw [eW] at R6 B6 M6 ⊢
          clear eW
          have bz := B6.out.size
          go_wp2_with fail
          refine (KCut_any a2 m cb 100 W6 (by omega) (by omega) hm hcb (fun h => by obtain ⟨b, off, e, _⟩ := hb.out.2 h; exact ⟨b, off, e⟩)).mono ?_
          rintro e W6 ⟨rfl, rfl⟩
          have hB0 : a2 = none → cb = 0 := fun e => (hB e).2
          obtain ⟨ml, eml⟩ : ∃ ml, lm.take (min m 100) = ml := ⟨_, rfl⟩
          obtain ⟨mn, emn⟩ : ∃ mn, min m 100 = mn := ⟨_, rfl⟩
          rw [eml, emn] at M6
          rw [emn]
          have hmn : mn ≤ 100 := by omega
          have bzg : g ≤ W6.heap.size := by rw [← eg.out]; exact bz
          clear eml emn
          go_wp2_with (at_builtin; refine wpList_onto_b (by rfl) (.tmp 58) (.tmp 60) 22 (by rfl) g i0 Try.underlying22 hi0 hz0 hz1 hz2 _ _ (by rfl) R6.out a2 mn cb ml (by rfl) M6.out hB0 (by rw [hxl]; omega) bzg ?_)
          intro v4 w5 r4 g4 _
          have B7 : Hid (Below w.heap.size w w5) := Lib.hid (B6.out.grown g4 bz (fun q hq => by rw [eg.out]; exact (R6.out.blk hq).1))
          have hyl : Hid ((xs.set j z ++ ml).length = n2 + mn) := Lib.hid (by rw [List.length_append, hxl, M6.out.1])
          obtain ⟨ys, eys⟩ : ∃ ys, xs.set j z ++ ml = ys := ⟨_, rfl⟩
          rw [eys] at r4 hyl
          obtain ⟨A4, n4, c4, rfl, H4, h41, h42, h43, h44⟩ := r4.slice
          have hn4 : n4 ≤ 6100 := by have := hyl.out; omega
          have pl4 := Lib.hid r4.plain
          have H4 := Lib.hid H4
          have h41 := Lib.hid h41
          clear eys g4 r4 R6 B6 M6 bz bzg hyl
          go_wp2_with fail
          refine (Roomy_any A4 n4 c4 ys 165 w5 (by omega) H4).mono ?_
          rintro e w6 ⟨gr, rfl, R8, b8⟩
          have B8 := Lib.hid (below_up B7.out b8)
          obtain ⟨Af, cf, ef, Hf, -, -, -⟩ := R8.holds
          have hfl : (ys ++ List.replicate 80 (165 : UInt8)).length = n4 + 80 := by rw [List.length_append, List.length_replicate, h44]
          rw [hfl] at ef Hf
          injection ef with ef1 ef2 ef3
          subst ef1; subst ef3
          have Hf := Lib.hid Hf
          have H8 := Lib.hid (H4.out.below b8)
          have Ht : Hid (HB w6 (some ⟨gr, 0, none⟩) n4 ys) := Lib.hid (by
            have := Hf.out.take (k := n4) (by omega)
            rw [List.take_left' h44] at this
            exact this)
          have pl8 : Hid (∀ ad, A4 = some ad → ad.spot = none ∧ ad.block < w6.heap.size) := Lib.hid (fun ad e => ⟨(pl4.out ad e).1, Nat.lt_of_lt_of_le (pl4.out ad e).2.2 b8.size⟩)
          have hle : n4 ≤ n4 + 80 := by omega
          clear R8 b8 H4 pl4 hfl
          go_wp2_with fail
          refine (NewReader_any (some ⟨gr, 0, none⟩) n4 (n4 + 80) ys w6 (by omega) Ht).mono ?_
          rintro e w7 ⟨c, gq, rfl, P1, hg, hgc, b9⟩
          have T1 := Lib.hid (two_made H8.out h42 h43 (by omega) h41.out pl8.out P1 hg hgc b9)
          have z1 := Lib.hid (Nat.le_trans hg hgc)
          have z2 := Lib.hid b9.size
          have b10 := Lib.hid (b9.alloc b9.size (.cells #[.slice A4 n4 c4, .int .i64 0, .int .i64 0] 33))
          clear P1 hg hgc b9
          go_wp2_with fail
          obtain ⟨W9, eW9⟩ : ∃ W9, w7.alloc (.cells #[.slice A4 n4 c4, .int .i64 0, .int .i64 0] 33) = W9 := ⟨_, rfl⟩
          obtain ⟨cc, ecc⟩ : ∃ cc, w7.heap.size = cc := ⟨_, rfl⟩
          rw [eW9] at T1 b10 ⊢
          rw [ecc] at T1 z2 ⊢
          clear eW9 ecc
          go_loopw [17] (fun i wi => ∃ (q k' y' : Nat), i = .int .i64 q ∧ q ≤ 30 ∧ Hid (Two c gq cc A4 n4 c4 ys k' y' wi) ∧ Hid (Below w6.heap.size w6 wi)) (fun i _ => (30 - intOf i).toNat)
          case atStart => exact ⟨0, 0, 0, rfl, by omega, T1, b10⟩
          case round =>
            clear T1 b10
            obtain ⟨q, k', y', rfl, hq, hT, hW6⟩ := hrel
            by_cases hlt : q < 30
            · have d1 : decide ((q : Int) < (len1 : Int)) = true := decide_eq_true (by omega)
              have d2 : decide ((q : Int) < 30) = true := decide_eq_true (by omega)
              obtain ⟨qb, qo, rfl, k1, n1, n2'⟩ := hQ.out.below (below_up B8.out hW6.out) q (by omega)
              have d3 : (q : Int) < (len1 : Int) := by omega
              have hj2 := withinN_le (Q q) 2
              have hWi2 := fun W => Within_any (Q q) 2 W (by omega) n1 n2'
              obtain ⟨j2, ej2⟩ : ∃ j2, withinN (Q q) 2 = j2 := ⟨_, rfl⟩
              rw [ej2] at hj2 hWi2
              have hWi2 := Lib.hid hWi2
              clear ej2
              go_wp2_with fail
              refine (hWi2.out _).mono ?_
              rintro e wr2 ⟨rfl, rfl⟩
              go_wp2_with fail
              refine (Get_z c gq cc A4 n4 c4 ys k' y' _ _ hT).mono ?_
              rintro e w11 ⟨rfl, k2', y2', T2, O2⟩
              have T2 := Lib.hid T2
              have b11 := Lib.hid (only_pq_below hW6.out O2 z1.out z2.out)
              clear O2 k1
              go_wp2_with fail
              go_roundw
              case rel => exact ⟨q + 1, k2', y2', by go_num, by omega, T2, b11⟩
              case measure => simp [intOf]; omega
            · obtain rfl : q = 30 := by omega
              have d1 : decide (((30 : Nat) : Int) < (len1 : Int)) = true := decide_eq_true (by omega)
              have d1' : decide ((30 : Int) < (len1 : Int)) = true := decide_eq_true (by omega)
              go_wp2_with fail
              refine (Intact_yes gr 0 n4 (n4 + 80) c4 A4 ys 165 _ (by omega) (by omega) (by omega) (Lib.hid (Hf.out.below hW6.out)) (Lib.hid (H8.out.below hW6.out))).mono ?_
              rintro e w12 ⟨rfl, q9, rfl⟩
              have b12 := Lib.hid (below_drewN hW6.out q9)
              go_wp2_with fail
              refine (Known_any _).mono ?_
              rintro e w13 ⟨rfl, b⟩
              have b := Lib.hid (below_up (below_up B8.out b12.out) b)
              go_wp2_with fail
              go_ret
              exact ⟨rfl, b.out⟩
        · obtain rfl : n2 = 0 := by omega
          have R6 := RD
          have B6 := BW
          have M6 := M3
          have hxl := hl2
          clear RD BW M3
          go_upto_region 13 with (fail)
          have bz := B6.out.size
          go_wp2_with fail
          refine (KCut_any a2 m cb 100 wc (by omega) (by omega) hm hcb (fun h => by obtain ⟨b, off, e, _⟩ := hb.out.2 h; exact ⟨b, off, e⟩)).mono ?_
          rintro e wc ⟨rfl, rfl⟩
          have hB0 : a2 = none → cb = 0 := fun e => (hB e).2
          obtain ⟨ml, eml⟩ : ∃ ml, lm.take (min m 100) = ml := ⟨_, rfl⟩
          obtain ⟨mn, emn⟩ : ∃ mn, min m 100 = mn := ⟨_, rfl⟩
          rw [eml, emn] at M6
          rw [emn]
          have hmn : mn ≤ 100 := by omega
          have bzg : g ≤ wc.heap.size := by rw [← eg.out]; exact bz
          clear eml emn
          go_wp2_with (at_builtin; refine wpList_onto_b (by rfl) (.tmp 58) (.tmp 60) 22 (by rfl) g i0 Try.underlying22 hi0 hz0 hz1 hz2 _ _ (by rfl) R6.out a2 mn cb ml (by rfl) M6.out hB0 (by rw [hxl]; omega) bzg ?_)
          intro v4 w5 r4 g4 _
          have B7 : Hid (Below w.heap.size w w5) := Lib.hid (B6.out.grown g4 bz (fun q hq => by rw [eg.out]; exact (R6.out.blk hq).1))
          have hyl : Hid ((xs ++ ml).length = 0 + mn) := Lib.hid (by rw [List.length_append, hxl, M6.out.1])
          obtain ⟨ys, eys⟩ : ∃ ys, xs ++ ml = ys := ⟨_, rfl⟩
          rw [eys] at r4 hyl
          obtain ⟨A4, n4, c4, rfl, H4, h41, h42, h43, h44⟩ := r4.slice
          have hn4 : n4 ≤ 6100 := by have := hyl.out; omega
          have pl4 := Lib.hid r4.plain
          have H4 := Lib.hid H4
          have h41 := Lib.hid h41
          clear eys g4 r4 R6 B6 M6 bz bzg hyl
          go_wp2_with fail
          refine (Roomy_any A4 n4 c4 ys 165 w5 (by omega) H4).mono ?_
          rintro e w6 ⟨gr, rfl, R8, b8⟩
          have B8 := Lib.hid (below_up B7.out b8)
          obtain ⟨Af, cf, ef, Hf, -, -, -⟩ := R8.holds
          have hfl : (ys ++ List.replicate 80 (165 : UInt8)).length = n4 + 80 := by rw [List.length_append, List.length_replicate, h44]
          rw [hfl] at ef Hf
          injection ef with ef1 ef2 ef3
          subst ef1; subst ef3
          have Hf := Lib.hid Hf
          have H8 := Lib.hid (H4.out.below b8)
          have Ht : Hid (HB w6 (some ⟨gr, 0, none⟩) n4 ys) := Lib.hid (by
            have := Hf.out.take (k := n4) (by omega)
            rw [List.take_left' h44] at this
            exact this)
          have pl8 : Hid (∀ ad, A4 = some ad → ad.spot = none ∧ ad.block < w6.heap.size) := Lib.hid (fun ad e => ⟨(pl4.out ad e).1, Nat.lt_of_lt_of_le (pl4.out ad e).2.2 b8.size⟩)
          have hle : n4 ≤ n4 + 80 := by omega
          clear R8 b8 H4 pl4 hfl
          go_wp2_with fail
          refine (NewReader_any (some ⟨gr, 0, none⟩) n4 (n4 + 80) ys w6 (by omega) Ht).mono ?_
          rintro e w7 ⟨c, gq, rfl, P1, hg, hgc, b9⟩
          have T1 := Lib.hid (two_made H8.out h42 h43 (by omega) h41.out pl8.out P1 hg hgc b9)
          have z1 := Lib.hid (Nat.le_trans hg hgc)
          have z2 := Lib.hid b9.size
          have b10 := Lib.hid (b9.alloc b9.size (.cells #[.slice A4 n4 c4, .int .i64 0, .int .i64 0] 33))
          clear P1 hg hgc b9
          go_wp2_with fail
          obtain ⟨W9, eW9⟩ : ∃ W9, w7.alloc (.cells #[.slice A4 n4 c4, .int .i64 0, .int .i64 0] 33) = W9 := ⟨_, rfl⟩
          obtain ⟨cc, ecc⟩ : ∃ cc, w7.heap.size = cc := ⟨_, rfl⟩
          rw [eW9] at T1 b10 ⊢
          rw [ecc] at T1 z2 ⊢
          clear eW9 ecc
          go_loopw [17] (fun i wi => ∃ (q k' y' : Nat), i = .int .i64 q ∧ q ≤ 30 ∧ Hid (Two c gq cc A4 n4 c4 ys k' y' wi) ∧ Hid (Below w6.heap.size w6 wi)) (fun i _ => (30 - intOf i).toNat)
          case atStart => exact ⟨0, 0, 0, rfl, by omega, T1, b10⟩
          case round =>
            clear T1 b10
            obtain ⟨q, k', y', rfl, hq, hT, hW6⟩ := hrel
            by_cases hlt : q < 30
            · have d1 : decide ((q : Int) < (len1 : Int)) = true := decide_eq_true (by omega)
              have d2 : decide ((q : Int) < 30) = true := decide_eq_true (by omega)
              obtain ⟨qb, qo, rfl, k1, n1, n2'⟩ := hQ.out.below (below_up B8.out hW6.out) q (by omega)
              have d3 : (q : Int) < (len1 : Int) := by omega
              have hj2 := withinN_le (Q q) 2
              have hWi2 := fun W => Within_any (Q q) 2 W (by omega) n1 n2'
              obtain ⟨j2, ej2⟩ : ∃ j2, withinN (Q q) 2 = j2 := ⟨_, rfl⟩
              rw [ej2] at hj2 hWi2
              have hWi2 := Lib.hid hWi2
              clear ej2
              go_wp2_with fail
              refine (hWi2.out _).mono ?_
              rintro e wr2 ⟨rfl, rfl⟩
              go_wp2_with fail
              refine (Get_z c gq cc A4 n4 c4 ys k' y' _ _ hT).mono ?_
              rintro e w11 ⟨rfl, k2', y2', T2, O2⟩
              have T2 := Lib.hid T2
              have b11 := Lib.hid (only_pq_below hW6.out O2 z1.out z2.out)
              clear O2 k1
              go_wp2_with fail
              go_roundw
              case rel => exact ⟨q + 1, k2', y2', by go_num, by omega, T2, b11⟩
              case measure => simp [intOf]; omega
            · obtain rfl : q = 30 := by omega
              have d1 : decide (((30 : Nat) : Int) < (len1 : Int)) = true := decide_eq_true (by omega)
              have d1' : decide ((30 : Int) < (len1 : Int)) = true := decide_eq_true (by omega)
              go_wp2_with fail
              refine (Intact_yes gr 0 n4 (n4 + 80) c4 A4 ys 165 _ (by omega) (by omega) (by omega) (Lib.hid (Hf.out.below hW6.out)) (Lib.hid (H8.out.below hW6.out))).mono ?_
              rintro e w12 ⟨rfl, q9, rfl⟩
              have b12 := Lib.hid (below_drewN hW6.out q9)
              go_wp2_with fail
              refine (Known_any _).mono ?_
              rintro e w13 ⟨rfl, b⟩
              have b := Lib.hid (below_up (below_up B8.out b12.out) b)
              go_wp2_with fail
              go_ret
              exact ⟨rfl, b.out⟩
end Go.Proofs.Ytnjedfnaohdnfaa
