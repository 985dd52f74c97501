/-
  The law WireBack: one way to the list's length.
-/
import Derived.Test.YtnjedfnaohdnfaaBackFacts
import Derived.Test.YtnjedfnaohdnfaaTwo
import Derived.Deep.RegionHeld3
namespace Go.Proofs.Ytnjedfnaohdnfaa
open Go.RowKit
set_option linter.unusedVariables false
set_option linter.unusedSimpArgs false

set_option maxRecDepth 100000 in
set_option maxHeartbeats 1600000 in
theorem Back_way2 (a0 a1 a2 : Option Addr) (len0 cap0 m1 cb1 m cb : Nat) (K N : Nat → Int) (S : Nat → List UInt8) (la lb : List UInt8) (at_ : Int) (t : UInt8) (w : World)
    (c0 : cap0 ≤ 9223372036854775807) (l0 : len0 ≤ cap0) (hm1 : m1 ≤ cb1) (hcb1 : cb1 ≤ 9223372036854775807) (hr1 : m1 ≤ 140737488351232) (hA1 : a1 = none → m1 = 0 ∧ cb1 = 0) (hm : m ≤ cb) (hcb : cb ≤ 9223372036854775807) (hB : a2 = none → m = 0 ∧ cb = 0)
    (hP : Hid (Parts w a0 len0 K N S)) (ha : Hid (HB w a1 m1 la)) (hb : Hid (HB w a2 m lb)) (t1 : -9223372036854775808 ≤ at_) (t2 : at_ ≤ 9223372036854775807) (h0 : 20 < len0) :
    Calls Try.prog 6 #[.slice a0 len0 cap0, .slice a1 m1 cb1, .slice a2 m cb, .int .i64 at_, .int .u8 t.toNat] w fun e w' => e = .returned (.bool true) ∧ Below w.heap.size w w' := by
  obtain ⟨i0, hi0, hz0, hz1, hz2⟩ := info_parts info_u8
  have HBm := Lib.hid (hb.out.take (k := min m 255) (by omega))
  go_enter Try.func6, Try.ntmps6
  go_wp2_with fail
  refine (NewWriter_any _).mono ?_
  rintro e w1 ⟨rfl, W1, b1⟩
  have W1 := Lib.hid W1
  have b1 := Lib.hid b1
  obtain ⟨g, eg⟩ : ∃ g, w.heap.size = g := ⟨_, rfl⟩
  have eg := Lib.hid eg
  go_wp2_with fail
  rw [eg.out] at W1
  go_loopw [12] (fun i wr => ∃ (k : Nat) (v : Value), i = .int .i64 k ∧ k ≤ 20 ∧ Hid (Wr g g v (catB N S k) wr) ∧ Hid (Below w.heap.size w wr)) (fun i _ => (20 - intOf i).toNat)
  case atStart => exact ⟨0, _, rfl, by omega, W1, b1⟩
  case round =>
    clear W1 b1
    obtain ⟨k, v, rfl, hk, hD, hW⟩ := hrel
    have wpB : ∀ {v : Value} {xs : List UInt8} {W W' : World}, Wr g g v xs W → Below w.heap.size w W → Only (wp g v) W W' → Below w.heap.size w W' := fun {v xs W W'} hw hB hO => hB.trans (hO.below hB.size (fun j hj e => by
      rcases e with e | e
      · rw [← eg.out] at e; omega
      · have := (hw.row.blk e.symm).1
        rw [← eg.out] at this; omega))
    have hlenx := catB_len N S k
    by_cases hlt : k < 20
    · have d1 : decide ((k : Int) < (len0 : Int)) = true := decide_eq_true (by omega)
      have d2 : decide ((k : Int) < 20) = true := decide_eq_true (by omega)
      have d3 : (k : Int) < (len0 : Int) := by omega
      obtain ⟨pb, po, rfl, -, k2, k3, n1, n2⟩ := hP.out.below hW.out k (by omega)
      have hnx := Lib.hid (catB_next N S k)
      obtain ⟨xs, exs⟩ : ∃ xs, catB N S k = xs := ⟨_, rfl⟩
      rw [exs] at hD hnx hlenx
      clear exs
      go_wp2_with fail
      refine (WByte_any g g v xs (N k) wr hD (by omega) n1 n2).mono ?_
      rintro e w2 ⟨rfl, v2, W2, O2, F2⟩
      have B2 := Lib.hid (wpB hD.out hW.out O2)
      have W2 := Lib.hid W2
      obtain ⟨pb2, po2, e2, -, k2, k3, -, -⟩ := hP.out.below B2.out k (by omega)
      injection e2 with e2; injection e2 with e21 e22; subst e21; subst e22
      clear O2 F2
      go_wp2_with fail
      refine (WLong_any g g v2 _ (N k) w2 W2 (by rw [List.length_append]; simp; omega) n1 n2).mono ?_
      rintro e w3 ⟨rfl, v3, W3, O3, F3⟩
      have B3 := Lib.hid (wpB W2.out B2.out O3)
      have W3 := Lib.hid W3
      obtain ⟨pb3, po3, e3, -, k2, k3, -, -⟩ := hP.out.below B3.out k (by omega)
      injection e3 with e3; injection e3 with e31 e32; subst e31; subst e32
      clear O3 F3
      go_wp2_with fail
      refine (Head_any (S k) 255 _ (by omega)).mono ?_
      rintro e w3 ⟨rfl, rfl⟩
      go_wp2_with fail
      refine (WText_any g g v3 _ ((S k).take 255) _ W3 (by rw [List.length_append, List.length_append, longL_len]; simp; omega) (by rw [List.length_take]; omega)).mono ?_
      rintro e w4 ⟨rfl, v4, W4, O4, F4⟩
      have B4 := Lib.hid (wpB W3.out B3.out O4)
      rw [written_text] at W4
      have W4 : Hid (Wr g g v4 (catB N S (k + 1)) w4) := Lib.hid (by
        rw [hnx.out]; unfold partB
        simp only [List.append_assoc] at W4 ⊢
        exact W4)
      clear O4 F4 k2 k3
      go_wp2_with fail
      go_roundw
      case rel => exact ⟨k + 1, v4, by go_num, by omega, W4, B4⟩
      case measure => simp [intOf]; omega
    · obtain rfl : k = 20 := by omega
      have d1 : decide (((20 : Nat) : Int) < (len0 : Int)) = true := decide_eq_true (by omega)
      have d1' : decide ((20 : Int) < (len0 : Int)) = true := decide_eq_true (by omega)
      have hcl := catB_len N S 20
      obtain ⟨L, eL⟩ : ∃ L, catB N S 20 = L := ⟨_, rfl⟩
      rw [eL] at hD hcl
      have eL := Lib.hid eL
      clear wpB hlenx hk hlt
      go_wp2_with fail
      refine (Done_any g g v L wr hD (by omega)).mono ?_
      rintro e w5 ⟨rv, rfl, R5, b5⟩
      obtain ⟨A5, n5, c5, rfl, H5, -, -, -, l5⟩ := R5.slice
      have B5 := Lib.hid (below_up hW.out b5)
      have H5 := Lib.hid H5
      clear R5 b5 hD hW
      go_wp2_with fail
      refine (NewReader_any A5 n5 c5 L w5 (by omega) H5).mono ?_
      rintro e w6 ⟨c, gq, rfl, P6, hg, hgc, b6⟩
      have B6 := Lib.hid (below_up B5.out b6)
      have zc : w.heap.size ≤ c := by have := B5.out.size; omega
      have P6 := Lib.hid P6
      have hgq := Lib.hid hgc
      clear b6 hg hgc H5
      go_wp2_with fail
      go_loopw [14] (fun i wi => ∃ q : Nat, i = .int .i64 q ∧ q ≤ 20 ∧ Hid (PR c gq L (catB N S q).length 0 wi) ∧ Hid (Below w.heap.size w wi)) (fun i _ => (20 - intOf i).toNat)
      case atStart => exact ⟨0, rfl, by omega, P6, B6⟩
      case round =>
        clear P6 B6 B5
        obtain ⟨q, rfl, hq, hR, hW⟩ := hrel
        by_cases hlq : q < 20
        · have d1 : decide ((q : Int) < (len0 : Int)) = true := decide_eq_true (by omega)
          have d2 : decide ((q : Int) < 20) = true := decide_eq_true (by omega)
          have d3 : (q : Int) < (len0 : Int) := by omega
          obtain ⟨pb, po, rfl, -, -, -, n1, n2⟩ := hP.out q (by omega)
          obtain ⟨r, hr⟩ := catB_split N S hlq
          rw [eL.out] at hr
          have hnx : (catB N S q).length + (partB (N q) (S q)).length = (catB N S (q + 1)).length := by rw [catB_next, List.length_append]
          obtain ⟨xs, exs⟩ : ∃ xs, catB N S q = xs := ⟨_, rfl⟩
          rw [exs] at hr hnx hR
          have kb := read_byte xs r (N q) (S q)
          have kl := read_long xs r (N q) (S q)
          have kt := read_text xs r (N q) (S q)
          rw [← hr] at kb kl kt
          rw [hnx] at kt
          have KB : Hid (∀ W, Hid (PR c gq L xs.length 0 W) → Calls Try.prog 29 #[.pointer (some ⟨c, 0, none⟩)] W fun e w' => e = .returned (.int .i64 (N q % 256)) ∧ Hid (PR c gq L (xs.length + 1) 0 w') ∧ W.grownBy w' (some c)) := Lib.hid (fun W H => by
            have := PByte_any c gq L xs.length 0 W H
            rw [kb] at this
            refine this.mono ?_
            rintro e w' ⟨rfl, h2, h3⟩
            refine ⟨?_, Lib.hid h2, h3⟩
            show Ending.returned (Value.int .i64 ((headN [byteOf (N q)] : Nat) : Int)) = _
            rw [headN_one, byteOf_nat])
          have KL : Hid (∀ W, Hid (PR c gq L (xs.length + 1) 0 W) → Calls Try.prog 30 #[.pointer (some ⟨c, 0, none⟩)] W fun e w' => e = .returned (.int .i64 (N q)) ∧ Hid (PR c gq L (xs.length + 9) 0 w') ∧ W.grownBy w' (some c)) := Lib.hid (fun W H => by
            have := PLong_any c gq L (xs.length + 1) 0 W H
            rw [kl] at this
            refine this.mono ?_
            rintro e w' ⟨rfl, h2, h3⟩
            refine ⟨?_, Lib.hid h2, h3⟩
            show Ending.returned (Value.int .i64 (wrap64 ((numL (longL (N q)) : Nat) : Int))) = _
            rw [long_back n1 n2])
          have KT : Hid (∀ W, Hid (PR c gq L (xs.length + 9) 0 W) → Calls Try.prog 31 #[.pointer (some ⟨c, 0, none⟩)] W fun e w' => e = .returned (.string (str ((S q).take 255))) ∧ Hid (PR c gq L (catB N S (q + 1)).length 0 w') ∧ W.grownBy w' (some c)) := Lib.hid (fun W H => by
            have := PText_any c gq L (xs.length + 9) 0 W H
            rw [kt] at this
            refine this.mono ?_
            rintro e w' ⟨rfl, h2, h3⟩
            exact ⟨rfl, Lib.hid h2, h3⟩)
          have hSof : Hid (∀ W, Below w.heap.size w W → W.cell? ⟨pb, po + q * 3 + 1, none⟩ = some (.int .i64 (N q)) ∧ W.cell? ⟨pb, po + q * 3 + 2, none⟩ = some (.string (str (S q))) ∧ Below w.heap.size w W) := Lib.hid (fun W hB => by
            obtain ⟨pb2, po2, e2, -, k2, k3, -, -⟩ := hP.out.below hB q (by omega)
            injection e2 with e2; injection e2 with e21 e22; subst e21; subst e22
            exact ⟨k2, k3, hB⟩)
          have hz0 := hSof.out _ hW.out.drew
          have hR0 : Hid (PR c gq L xs.length 0 wr.drew) := Lib.hid (hR.out.drewN 1)
          have grow : Hid (∀ (W W' : World), Below w.heap.size w W → W.grownBy W' (some c) → Below w.heap.size w W') := Lib.hid (fun W W' h1 h2 => h1.grown h2 h1.size (fun k hk => by injection hk with hk; omega))
          have hwr : IntKind.i64.wrap (IntKind.u8.wrap (N q)) = N q % 256 := by rw [IntKind.wrap_u8']; exact IntWalk.i64_in _ (by omega)
          clear kb kl kt hr hnx exs hR
          go_wp2_with fail
          go_region_held3 (fun w' => w'.cell? ⟨pb, po + q * 3 + 1, none⟩ = some (.int .i64 (N q)) ∧ w'.cell? ⟨pb, po + q * 3 + 2, none⟩ = some (.string (str (S q))) ∧ Below w.heap.size w w') (first | assumption | exact hz0)
            (first
              | (go_at_call 29; refine (KB.out _ (by assumption)).mono ?_; rintro e w11 ⟨rfl, R11, G11⟩; have hz11 := hSof.out _ (grow.out _ _ hz0.2.2 G11))
              | (go_at_call 30; refine (KL.out _ (by assumption)).mono ?_; rintro e w12 ⟨rfl, R12, G12⟩; have hz12 := hSof.out _ (grow.out _ _ hz11.2.2 G12))
              | (go_at_call 31; refine (KT.out _ (by assumption)).mono ?_; rintro e w13 ⟨rfl, R13, G13⟩; have hz13 := hSof.out _ (grow.out _ _ hz12.2.2 G13))
              | (go_at_call 28; refine (Head_any (S q) 255 _ (by omega)).mono ?_; rintro e w13 ⟨rfl, rfl⟩))
          go_wp2_with fail
          have R13 := R13
          have hW13 := Lib.hid hz13.2.2
          go_roundw
          case rel => exact ⟨q + 1, by go_num, by omega, by assumption, hW13⟩
          case measure => simp [intOf]; omega
        · obtain rfl : q = 20 := by omega
          have d1 : decide (((20 : Nat) : Int) < (len0 : Int)) = true := decide_eq_true (by omega)
          have d1' : decide ((20 : Int) < (len0 : Int)) = true := decide_eq_true (by omega)
          have M3 := Lib.hid (HBm.out.below hW.out)
          have LA := Lib.hid (ha.out.below hW.out)
          have hlen1 := ha.out.1
          go_wp2_with fail
          refine (KCut_any a2 m cb 255 wr (by omega) (by omega) hm hcb (fun h => by obtain ⟨b, off, e, _⟩ := hb.out.2 h; exact ⟨b, off, e⟩)).mono ?_
          rintro e wr ⟨rfl, rfl⟩
          obtain ⟨bl, ebl⟩ : ∃ bl, lb.take (min m 255) = bl := ⟨_, rfl⟩
          obtain ⟨nb, enb⟩ : ∃ nb, min m 255 = nb := ⟨_, rfl⟩
          rw [ebl, enb] at M3
          rw [enb]
          have hnb : nb ≤ 255 := by omega
          have hB0 : a2 = none → cb = 0 := fun e => (hB e).2
          have hA0 : a1 = none → cb1 = 0 := fun e => (hA1 e).2
          have hbl := M3.out.1
          clear ebl enb
          go_wp2_with fail
          refine (Frame_any a2 nb cb bl wr hnb hB0 M3).mono ?_
          rintro e w8 ⟨v8, rfl, R8, b8⟩
          have hfl : (frameL bl).length = nb + 6 := by rw [frameL_len, hbl]
          obtain ⟨A8, n8, c8, rfl, H8, -, h82, h83, h84⟩ := R8.slice
          obtain ⟨gf, rfl, -, -⟩ := rb_some' R8 (by omega)
          obtain rfl : n8 = nb + 6 := by omega
          obtain ⟨nf, enf⟩ : ∃ nf, nb + 6 = nf := ⟨_, rfl⟩
          rw [enf] at R8 H8 h82 h84 hfl ⊢
          have R8 := Lib.hid R8
          have H8 := Lib.hid H8
          have B8 := Lib.hid (below_up hW.out b8)
          have P8 := Lib.hid (hR.out.only (only_below b8) (fun e => e) (fun e => e))
          have hgfB : wr.heap.size ≤ gf := (R8.out.blk (k := gf) rfl).1
          have LA8 := Lib.hid (LA.out.below b8)
          have M8 := Lib.hid (M3.out.below b8)
          have R0 := Lib.hid (rb_lit w8 w8.heap.size [] (Nat.le_refl _) (by simp))
          have G8 := Lib.hid (LA8.out.alloc (.cells #[] 5))
          have hmn : nf ≤ 261 := by omega
          have bzw := hW.out.size
          clear b8 hR hW LA
          go_wp2_with (at_builtin; refine wpList_onto_b (by rfl) (.tmp 112) (.tmp 113) 22 (by rfl) w8.heap.size i0 Try.underlying22 hi0 hz0 hz1 hz2 _ _ (by rfl) R0.out a1 m1 cb1 la (by rfl) G8.out hA0 (by simp; omega) (by simp) ?_)
          intro v9 w9 R9 g9 _
          have b9 := Lib.hid (RB.below ((Below.refl _ w8).alloc (Nat.le_refl _) _) R0.out g9)
          have R9 := Lib.hid R9
          have H9 := Lib.hid (H8.out.below b9.out)
          have bz9 := b9.out.size
          clear g9
          go_wp2_with (at_builtin; refine wpList_onto_b (by rfl) (.tmp 114) (.tmp 115) 22 (by rfl) w8.heap.size i0 Try.underlying22 hi0 hz0 hz1 hz2 _ _ (by rfl) R9.out (some ⟨gf, 0, none⟩) nf c8 (frameL bl) (by rfl) H9.out (fun e => by cases e) (by rw [hlen1]; omega) bz9 ?_)
          intro v10 w10 R10 g10 _
          have b10 := Lib.hid (RB.below b9.out R9.out g10)
          obtain ⟨A10, n10, c10, rfl, H10, h101, h102, h103, h104⟩ := R10.slice
          have hn10 : n10 = m1 + nf := by rw [← h104, List.length_append, hlen1, hfl]
          have H10 := Lib.hid H10
          have h101 := Lib.hid h101
          have ho := open_frame la bl [] (by omega)
          rw [List.append_nil, hlen1, hbl] at ho
          have ho := Lib.hid ho
          obtain ⟨E, eE⟩ : ∃ E, m1 + 6 + nb = E := ⟨_, rfl⟩
          rw [eE] at ho
          have hE : (m1 : Int) + (nf : Int) = (E : Int) := by omega
          have hF : (nb : Int) + 6 = (nf : Int) := by omega
          have hn10b : n10 ≤ 140737488355328 := by omega
          have hE1 : E ≤ 140737488355328 := by omega
          have M10 := Lib.hid (M8.out.below b10.out)
          have R8b := Lib.hid (R8.out.only (only_below b10.out) (fun _ _ e => e))
          have P10 := Lib.hid (P8.out.only (only_below b10.out) (fun e => e) (fun e => e))
          have B10 := Lib.hid (below_up B8.out b10.out)
          clear eE enf R0 G8 R9 H9 b9 bz9 R10 g10 R8 P8 B8 b10 H8 LA8 hn10
          go_wp2_with fail
          refine (Open_any A10 n10 c10 (la ++ frameL bl) (m1 : Int) w10 hn10b h102 h103 h101.out H10).mono ?_
          rintro e w11 ⟨v11, rfl, R11, b11⟩
          rw [ho.out] at R11 ⊢
          obtain ⟨A11, n11, c11, rfl, H11, -, -, -, -⟩ := R11.slice
          have B11 := Lib.hid (below_up B10.out b11)
          have R8c := Lib.hid (R8b.out.only (only_below b11) (fun _ _ e => e))
          have P11 := Lib.hid (P10.out.only (only_below b11) (fun e => e) (fun e => e))
          have hE0 := PEnd_any c gq L _ 0 w11 P11
          rw [eL.out, rdEnd_all (Nat.lt_irrefl _)] at hE0
          have hE0 := Lib.hid hE0
          have s1 : (convert 22 9 (.slice A11 n11 c11)).run Try.prog w11 = .ok (.string (str bl)) w11 := H11.str c11
          have s2 : (convert 22 9 (.slice a2 nb cb)).run Try.prog w11 = .ok (.string (str bl)) w11 := (M10.out.below b11).str cb
          clear b11 R11 R8b P10 B10 H10
          go_wp2_with fail
          refine hE0.out.mono ?_
          rintro e w11 ⟨rfl, rfl⟩
          obtain ⟨q0, eq0⟩ : ∃ q0, nf = q0 + 1 := ⟨nf - 1, by omega⟩
          have hj := withinN_le at_ q0
          obtain ⟨j, ej⟩ : ∃ j, withinN at_ q0 = j := ⟨_, rfl⟩
          have hWi := fun W => Within_any at_ q0 W (by omega) t1 t2
          rw [ej] at hj hWi
          obtain ⟨kc, kf⟩ := rb_cell hfl R8c.out j (by omega)
          have s5 := rb_stored hfl R8c.out j ((frameL bl).getD j 0 ^^^ t)
          have yx := u8_xor_byte ((frameL bl).getD j 0) t
          have hjj : (j : Int) < (nf : Int) := by omega
          have hjn : j < bl.length + 6 := by omega
          have B12 := Below.setCell B11.out (p := ⟨gf, j, none⟩) (by show w.heap.size ≤ gf; omega) (bc ((frameL bl).getD j 0 ^^^ t))
          have hbl5 : bl.length ≤ 255 := by omega
          obtain ⟨y, ey⟩ : ∃ y, (frameL bl).getD j 0 = y := ⟨_, rfl⟩
          rw [ey] at kc s5 yx B12
          obtain ⟨z, ez⟩ : ∃ z, y ^^^ t = z := ⟨_, rfl⟩
          rw [ez] at s5 yx B12
          have hnx : (nf : Int) - 1 = (q0 : Int) := by omega
          have yl : y.toNat < 256 := by have := y.toNat_lt; omega
          have tl : t.toNat < 256 := by have := t.toNat_lt; omega
          unfold bc at kc
          have HX : HB (w11.setCell ⟨gf, j, none⟩ (bc z)) (some ⟨gf, 0, none⟩) nf ((frameL bl).set j z) := by
            obtain ⟨A9, n9, c9, e9, H9', -, -, -, l9⟩ := s5.1.slice
            injection e9 with e91 e92 e93
            subst e91
            rw [← e92] at H9'
            exact H9'
          have HX := Lib.hid HX
          have B12 := Lib.hid B12
          have hWi := Lib.hid hWi
          have ey := Lib.hid ey
          have ez := Lib.hid ez
          unfold bc at HX B12
          clear s5 ej eq0
          go_upto_region 24 with (go_at_call 17; refine (hWi.out _).mono ?_; rintro e w11 ⟨rfl, rfl⟩)
          obtain ⟨W12, eW12⟩ : ∃ W12, w11.setCell ⟨gf, j, none⟩ (.int .u8 z.toNat) = W12 := ⟨_, rfl⟩
          rw [eW12] at HX B12 ⊢
          clear eW12 R8c P11 M10 kc kf yx B11
          by_cases ht : t = 0
          · have ho2 : openR ((frameL bl).set j z) 0 = (bl, 0 + 6 + nb, 0) := by
              have e1 : z = (frameL bl).getD j 0 := by rw [← ez.out, ey.out, ht, UInt8.xor_zero]
              have e2 : (frameL bl).set j z = frameL bl := by
                rw [e1]
                refine list_same (n := nf) (by rw [List.length_set, hfl]) hfl (fun i hi => ?_)
                by_cases e : j = i
                · subst e; simp [List.getD, hfl, hi]
                · simp only [List.getD_eq_getElem?_getD, List.getElem?_set_ne e]
              rw [e2]
              have := open_frame [] bl [] hbl5
              rw [List.append_nil, List.nil_append, hbl] at this
              exact this
            have tz : ((t.toNat : Int) == 0) = true := by rw [ht]; rfl
            go_wp2_with fail
            refine (Open_any (some ⟨gf, 0, none⟩) nf c8 ((frameL bl).set j z) 0 W12 (by omega) h82 h83 (fun e => by cases e) HX).mono ?_
            rintro e w13 ⟨v13, rfl, R13, b13⟩
            rw [ho2] at R13 ⊢
            obtain ⟨A13, n13, c13, rfl, H13, -, -, -, l13⟩ := R13.slice
            have B13 := Lib.hid (below_up B12.out b13)
            clear b13 R13 H13
            go_wp2_with fail
            refine (Known_any _).mono ?_
            rintro e w25 ⟨rfl, b⟩
            have b := Lib.hid (below_up B13.out b)
            go_wp2_with fail
            go_ret
            exact ⟨rfl, b.out⟩
          · obtain ⟨p, ho2, hp⟩ := open_turned bl hbl5 j hjn z (by rw [ey.out, ← ez.out]; exact xor_ne ht)
            have tz : ((t.toNat : Int) == 0) = false := by simp only [beq_eq_false_iff_ne, ne_eq]; intro e; exact ht (UInt8.toNat_inj.1 (by rw [show (0 : UInt8).toNat = 0 from rfl]; omega : t.toNat = (0 : UInt8).toNat))
            go_wp2_with fail
            refine (Open_any (some ⟨gf, 0, none⟩) nf c8 ((frameL bl).set j z) 0 W12 (by omega) h82 h83 (fun e => by cases e) HX).mono ?_
            rintro e w13 ⟨v13, rfl, R13, b13⟩
            rw [ho2] at R13 ⊢
            obtain ⟨A13, n13, c13, rfl, H13, -, -, -, l13⟩ := R13.slice
            have B13 := Lib.hid (below_up B12.out b13)
            clear b13 R13 H13
            obtain rfl : n13 = 0 := by rw [← l13]; rfl
            have pz : ((p : Int) == 0) = false := by simp; omega
            go_wp2_with fail
            refine (Known_any _).mono ?_
            rintro e w25 ⟨rfl, b⟩
            have b := Lib.hid (below_up B13.out b)
            go_wp2_with fail
            go_ret
            exact ⟨rfl, b.out⟩
end Go.Proofs.Ytnjedfnaohdnfaa
