/-
  The law WireFrames.
-/
import Derived.Test.YtnjedfnaohdnfaaFrames
namespace Go.Proofs.Ytnjedfnaohdnfaa
open Go.RowKit
set_option linter.unusedVariables false
set_option linter.unusedSimpArgs false

/-- The three places, in block tb. -/
def Three (W : World) (tb : Nat) (a b c : Int) : Prop := ∀ i, i < 3 → W.cell? ⟨tb, i, none⟩ = some (.int .i64 ([a, b, c].getD i 0))
theorem three_lit (w : World) (a b c : Int) : Three (w.alloc (.cells #[.int .i64 a, .int .i64 b, .int .i64 c] 3)) w.heap.size a b c := by
  intro i hi
  rw [Lib.cell_of_heap (heap_alloc_new w _)]
  match i, hi with
  | 0, _ | 1, _ | 2, _ => rfl
theorem Three.below {W W' : World} {tb : Nat} {a b c : Int} (h : Three W tb a b c) (hb : Below W.heap.size W W') : Three W' tb a b c := by
  intro i hi
  exact (hb.cell (p := ⟨tb, i, none⟩) (World.block_lt_of_cell? W _ (h i hi))).trans (h i hi)
theorem rb_some {w : World} {base : Nat} {v : Value} {l : List UInt8} (h : RB w base v l) (h0 : 0 < l.length) : ∃ g cap, v = .slice (some ⟨g, 0, none⟩) l.length cap ∧ l.length ≤ cap ∧ cap ≤ 9223372036854775807 := by
  obtain ⟨g, cap, hv, _, _⟩ := World.ownsRow.form h h0
  obtain ⟨A, c, e, _, _, h2, h3⟩ := h.holds
  rw [hv] at e
  injection e with e1 e2 e3
  subst e3
  simp only [maxLen] at h2
  exact ⟨g, cap, hv, h3, by omega⟩
theorem open_i_le (l : List UInt8) (i : Int) : (openR l i).2.1 ≤ l.length := by
  unfold openR
  split
  · exact Nat.zero_le _
  · unfold openN
    split
    · exact Nat.zero_le _
    · split
      · exact Nat.zero_le _
      · split
        · exact Nat.zero_le _
        · split
          · exact Nat.zero_le _
          · show _ + 6 + _ ≤ _; omega
theorem open_e_le (l : List UInt8) (i : Int) : (openR l i).2.2 ≤ 14 := by
  unfold openR openN
  (repeat' split) <;> simp

set_option maxRecDepth 100000 in
set_option maxHeartbeats 1600000 in
theorem Frames_law (A B : Option Addr) (n m ca cb : Nat) (lb lm : List UInt8) (at_ place : Int) (t : UInt8) (w : World) (hn : n ≤ ca) (hca : ca ≤ 9223372036854775807) (hm : m ≤ cb) (hcb : cb ≤ 9223372036854775807) (hA : A = none → n = 0 ∧ ca = 0) (hB : B = none → m = 0 ∧ cb = 0) (ha : Hid (HB w A n lb)) (hb : Hid (HB w B m lm)) (t1 : -9223372036854775808 ≤ at_) (t2 : at_ ≤ 9223372036854775807) (p1 : -9223372036854775808 ≤ place) (p2 : place ≤ 9223372036854775807) :
    Calls Try.prog 5 #[.slice A n ca, .slice B m cb, .int .i64 at_, .int .i64 place, .int .u8 t.toNat] w fun e w' => e = .returned (.bool true) ∧ Below w.heap.size w w' := by
  obtain ⟨i0, hi0, hz0, hz1, hz2⟩ := info_parts info_u8
  have HBm := Lib.hid (hb.out.take (k := min m 100) (by omega))
  go_enter Try.func5, Try.ntmps5
  go_wp2_with fail
  refine (KCut_any A n ca 300 w (by omega) (by omega) hn hca (fun h => by obtain ⟨b, off, e, _⟩ := ha.out.2 h; exact ⟨b, off, e⟩)).mono ?_
  rintro e w ⟨rfl, rfl⟩
  have HL := ha.out.take (k := min n 300) (by omega)
  obtain ⟨l, el⟩ : ∃ l, lb.take (min n 300) = l := ⟨_, rfl⟩
  rw [el] at HL
  obtain ⟨k, ek⟩ : ∃ k, min n 300 = k := ⟨_, rfl⟩
  rw [ek] at HL ⊢
  have hk : k ≤ 300 := by omega
  have hk2 : k ≤ ca := by omega
  have hA0 : A = none → ca = 0 := fun e => (hA e).2
  have HL := Lib.hid HL
  clear ek el
  go_wp2_with fail
  refine (Frame_all A k ca l _ (by omega) hA0 HL).mono ?_
  rintro e w1 ⟨v1, rfl, r1, b1⟩
  have B1 := Lib.hid b1
  have r1 := Lib.hid r1
  have HL1 := Lib.hid (HL.out.below b1)
  clear b1
  go_wp2_with fail
  refine (RefFrame_all A k ca l _ (by omega) hA0 HL1).mono ?_
  rintro e w2 ⟨v2, rfl, r2, b2⟩
  have B2 := Lib.hid (below_up B1.out b2)
  have HL2 := Lib.hid (HL1.out.below b2)
  obtain ⟨A1, n1, c1, rfl, H1, h11, h12, h13, -⟩ := r1.out.slice
  obtain ⟨A2, n2, c2, rfl, H2, h21, h22, h23, h24⟩ := r2.slice
  have H1 := Lib.hid (H1.below b2)
  have H2 := Lib.hid H2
  have f1 := frL_len l
  have f2 := frE_le l
  obtain ⟨gl, egl⟩ : ∃ gl, frL l = gl := ⟨_, rfl⟩
  obtain ⟨ge, ege⟩ : ∃ ge, frE l = ge := ⟨_, rfl⟩
  rw [egl] at H1 H2 f1 h24
  rw [ege] at f2 ⊢
  have s1 := H1.out.str c1
  have s2 := H2.out.str c2
  have cc := crcL_lt l
  obtain ⟨cr, ecr⟩ : ∃ cr, crcL l = cr := ⟨_, rfl⟩
  rw [ecr] at cc
  have hc1 : Calls Try.prog 22 #[.slice A k ca] w2 fun e w' => e = .returned (.int .u32 cr) ∧ w2 = w' := by
    have := Crc_any A k ca l w2 (by omega) HL2
    rw [ecr] at this; exact this
  have hc2 : Calls Try.prog 23 #[.slice A k ca] w2 fun e w' => e = .returned (.int .u32 cr) ∧ w2 = w' := by
    have := RefCrc_any A k ca l w2 (by omega) HL2
    rw [ecr] at this; exact this
  have hc1 := Lib.hid hc1
  have hc2 := Lib.hid hc2
  have u1 : ((ge : Int) != (ge : Int)) = false := by simp
  have u2 : ((cr : Int) != (cr : Int)) = false := by simp
  clear b2 r1 r2 egl ege ecr
  go_wp2_with fail
  refine hc1.out.mono ?_
  rintro e w2 ⟨rfl, rfl⟩
  go_wp2_with fail
  refine hc2.out.mono ?_
  rintro e w2 ⟨rfl, rfl⟩
  have R0 := Lib.hid (rb_lit w2 w.heap.size [] B2.out.size (by simp))
  have G2 := Lib.hid (H2.out.alloc (.cells #[] 5))
  have hgl := Lib.hid h24
  have bz := B2.out.size
  go_wp2_with (at_builtin; refine wpList_onto_b (by rfl) (.tmp 53) (.tmp 54) 22 (by rfl) w.heap.size i0 Try.underlying22 hi0 hz0 hz1 hz2 _ _ (by rfl) R0.out A2 n2 c2 gl (by rfl) G2.out h21 (by simp; omega) (by simp; omega) ?_)
  intro v3 w3 r3 g3 _
  have B3 := Lib.hid (RB.below (B2.out.alloc B2.out.size _) R0.out g3)
  have r3 := Lib.hid r3
  have M3 := Lib.hid (HBm.out.below B3.out)
  clear g3
  go_wp2_with fail
  refine (KCut_any B m cb 100 w3 (by omega) (by omega) hm hcb (fun h => by obtain ⟨b, off, e, _⟩ := hb.out.2 h; exact ⟨b, off, e⟩)).mono ?_
  rintro e w3 ⟨rfl, rfl⟩
  have hB0 : B = none → cb = 0 := fun e => (hB e).2
  obtain ⟨ml, eml⟩ : ∃ ml, lm.take (min m 100) = ml := ⟨_, rfl⟩
  obtain ⟨mn, emn⟩ : ∃ mn, min m 100 = mn := ⟨_, rfl⟩
  rw [eml, emn] at M3
  rw [emn]
  have hmn : mn ≤ 100 := by omega
  have bz3 := B3.out.size
  clear eml emn
  go_wp2_with (at_builtin; refine wpList_onto_b (by rfl) (.tmp 55) (.tmp 57) 22 (by rfl) w.heap.size i0 Try.underlying22 hi0 hz0 hz1 hz2 _ _ (by rfl) r3.out B mn cb ml (by rfl) M3.out hB0 (by rw [hgl.out]; omega) bz3 ?_)
  intro v4 w5 r4 g4 _
  have B5 := Lib.hid (RB.below B3.out r3.out g4)
  have hxl := Lib.hid (show (gl ++ ml).length = n2 + mn by rw [List.length_append, hgl.out, M3.out.1])
  clear g4
  obtain ⟨xs, exs⟩ : ∃ xs, gl ++ ml = xs := ⟨_, rfl⟩
  rw [exs] at r4 hxl
  have r4 := Lib.hid r4
  clear exs r3 M3 R0 G2
  by_cases h0 : 0 < n2 + mn
  · obtain ⟨gx, c4, ev, h43, h44⟩ := rb_some r4.out (by rw [hxl.out]; exact h0)
    rw [hxl.out] at ev h43
    subst ev
    obtain ⟨nx, enx⟩ : ∃ nx, n2 + mn = nx := ⟨_, rfl⟩
    rw [enx] at r4 hxl h43 h0
    rw [enx]
    obtain ⟨q0, eq0⟩ : ∃ q0, nx = q0 + 1 := ⟨nx - 1, by omega⟩
    have hq0 : q0 ≤ 400 := by omega
    have hnx0 : nx ≤ 401 := by omega
    clear enx
    have hj := withinN_le at_ q0
    obtain ⟨j, ej⟩ : ∃ j, withinN at_ q0 = j := ⟨_, rfl⟩
    have hW := fun W => Within_any at_ q0 W (by omega) t1 t2
    rw [ej] at hj hW
    obtain ⟨kc, kf⟩ := rb_cell hxl.out r4.out j (by omega)
    have s5 := rb_stored hxl.out r4.out j (xs.getD j 0 ^^^ t)
    have yx := u8_xor_byte (xs.getD j 0) t
    have hjj : (j : Int) < (nx : Int) := by omega
    have hXL : (turnL xs j t).length = nx := by rw [turnL_len]; exact hxl.out
    have B6 := Lib.hid (Below.setCell B5.out (p := ⟨gx, j, none⟩) ((r4.out.blk (k := gx) rfl).1) (bc (xs.getD j 0 ^^^ t)))
    obtain ⟨z, ez⟩ : ∃ z, xs.getD j 0 ^^^ t = z := ⟨_, rfl⟩
    obtain ⟨y, ey⟩ : ∃ y, xs.getD j 0 = y := ⟨_, rfl⟩
    have eT : turnL xs j t = xs.set j z := by unfold turnL; rw [ez]
    rw [ez, ey] at yx
    rw [ey] at kc
    rw [ez] at s5 B6
    rw [eT] at hXL
    clear ez ey ej eT
    have yl : y.toNat < 256 := by have := y.toNat_lt; omega
    have tl : t.toNat < 256 := by have := t.toNat_lt; omega
    unfold bc at kc B6
    have s6 := Lib.hid s5.1
    have hW := Lib.hid hW
    clear s5
    have hnx : (nx : Int) - 1 = (q0 : Int) := by omega
    clear eq0
    go_wp2_with (go_at_call 17; refine (hW.out _).mono ?_; rintro e w5 ⟨rfl, rfl⟩)
    have HX0 : HB (w5.setCell ⟨gx, j, none⟩ (.int .u8 z.toNat)) (some ⟨gx, 0, none⟩) nx (xs.set j z) := by
      obtain ⟨A9, n9, c9, e9, H9, -, -, -, l9⟩ := s6.out.slice
      injection e9 with e91 e92 e93
      subst e91
      rw [← e92] at H9
      exact H9
    have BX0 := B6.out
    have h41 : some (⟨gx, 0, none⟩ : Addr) = none → c4 = 0 := fun e => by cases e
    clear s6 B6 hXL kc kf yx r4 B5
    have HX := Lib.hid HX0
    have BX := Lib.hid BX0
    clear HX0 BX0
    have hT := three_lit (w5.setCell ⟨gx, j, none⟩ (.int .u8 z.toNat)) 0 place (n2 : Int)
    have bT := (Below.refl (w5.setCell ⟨gx, j, none⟩ (.int .u8 z.toNat)).heap.size (w5.setCell ⟨gx, j, none⟩ (.int .u8 z.toNat))).alloc (Nat.le_refl _) (.cells #[.int .i64 0, .int .i64 place, .int .i64 n2] 3)
    obtain ⟨W9, eW⟩ : ∃ W9, (w5.setCell ⟨gx, j, none⟩ (.int .u8 z.toNat)).alloc (.cells #[.int .i64 0, .int .i64 place, .int .i64 n2] 3) = W9 := ⟨_, rfl⟩
    have esz : (w5.setCell ⟨gx, j, none⟩ (.int .u8 z.toNat)).heap.size = w5.heap.size := by simp
    rw [esz] at hT
    obtain ⟨tb, etb⟩ : ∃ tb, w5.heap.size = tb := ⟨_, rfl⟩
    rw [eW] at hT bT ⊢
    have B9 := Lib.hid (below_up BX.out bT)
    have H9 := Lib.hid (HX.out.below bT)
    rw [etb] at hT ⊢
    have hT := Lib.hid hT
    clear eW etb bT HX BX esz
    go_loopw [78] (fun i wr => ∃ q : Nat, i = .int .i64 q ∧ q ≤ 3 ∧ Hid (Three wr tb 0 place (n2 : Int)) ∧ Hid (HB wr (some ⟨gx, 0, none⟩) nx (xs.set j z)) ∧ Hid (Below w.heap.size w wr)) (fun i _ => 3 - (intOf i).toNat)
    case atStart => exact ⟨0, rfl, by omega, hT, H9, B9⟩
    case round =>
      clear hT H9 B9
      obtain ⟨q, rfl, hq, hT, hX, hB⟩ := hrel
      by_cases hlt : q < 3
      · have d1 : decide ((q : Int) < 3) = true := decide_eq_true (by omega)
        have d2 : (q : Int) < 3 := by omega
        have hcell := hT.out q hlt
        obtain ⟨p, ep⟩ : ∃ p, [(0 : Int), place, (n2 : Int)].getD q 0 = p := ⟨_, rfl⟩
        rw [ep] at hcell
        clear ep
        go_wp2_with fail
        refine (Open_any (some ⟨gx, 0, none⟩) (nx) c4 (xs.set j z) p wr (by omega) (by omega) (by omega) h41 hX).mono ?_
        rintro e w11 ⟨v11, rfl, r11, b11⟩
        have HX1 := Lib.hid (hX.out.below b11)
        obtain ⟨A11, n11, c11, rfl, H11, -, -, -, -⟩ := r11.slice
        go_wp2_with fail
        refine (RefOpen_any (some ⟨gx, 0, none⟩) (nx) c4 (xs.set j z) p w11 (by omega) (by omega) (by omega) HX1).mono ?_
        rintro e w12 ⟨v12, rfl, r12, b12⟩
        obtain ⟨A12, n12, c12, rfl, H12, -, -, -, -⟩ := r12.slice
        have s1 := (H11.below b12).str c11
        have s2 := H12.str c12
        have B12 := Lib.hid (below_up b11 (below_up (Below.refl _ _) b12))
        obtain ⟨P, eP⟩ : ∃ P, (openR ((xs.set j z)) p).1 = P := ⟨_, rfl⟩
        obtain ⟨Q, eQ⟩ : ∃ Q, (openR ((xs.set j z)) p).2.1 = Q := ⟨_, rfl⟩
        obtain ⟨R, eR⟩ : ∃ R, (openR ((xs.set j z)) p).2.2 = R := ⟨_, rfl⟩
        have q1 := open_i_le ((xs.set j z)) p
        have q2 := open_e_le ((xs.set j z)) p
        rw [eQ] at q1 ⊢
        rw [eR] at q2 ⊢
        rw [eP] at s1 s2
        have u3 : ((Q : Int) != (Q : Int)) = false := by simp
        have u4 : ((R : Int) != (R : Int)) = false := by simp
        clear eP eQ eR H11 H12 r11 r12 b11 b12
        go_wp2_with fail
        go_roundw
        case rel => exact ⟨q + 1, by go_num, by omega, Lib.hid (hT.out.below B12.out), Lib.hid (hX.out.below B12.out), Lib.hid (below_up hB.out B12.out)⟩
        case measure => simp [intOf]; omega
      · obtain rfl : q = 3 := by omega
        go_wp2_with fail
        refine (Known_any _).mono ?_
        rintro e w25 ⟨rfl, b⟩
        have b := Lib.hid (below_up hB.out b)
        go_wp2_with fail
        go_ret
        exact ⟨rfl, b.out⟩
  · obtain ⟨A4, n4, c4, ev, HX0, h41, h42, h43, hl4⟩ := r4.out.slice
    subst ev
    obtain rfl : n4 = 0 := by have := hxl.out; omega
    have BX0 := B5.out
    clear r4 B5
    go_wp2_with fail
    have HX := Lib.hid HX0
    have BX := Lib.hid BX0
    clear HX0 BX0
    have hT := three_lit w5 0 place (n2 : Int)
    have bT := (Below.refl w5.heap.size w5).alloc (Nat.le_refl _) (.cells #[.int .i64 0, .int .i64 place, .int .i64 n2] 3)
    obtain ⟨W9, eW⟩ : ∃ W9, w5.alloc (.cells #[.int .i64 0, .int .i64 place, .int .i64 n2] 3) = W9 := ⟨_, rfl⟩
    have esz : w5.heap.size = w5.heap.size := by simp
    rw [esz] at hT
    obtain ⟨tb, etb⟩ : ∃ tb, w5.heap.size = tb := ⟨_, rfl⟩
    rw [eW] at hT bT ⊢
    have B9 := Lib.hid (below_up BX.out bT)
    have H9 := Lib.hid (HX.out.below bT)
    rw [etb] at hT ⊢
    have hT := Lib.hid hT
    clear eW etb bT HX BX esz
    go_loopw [78] (fun i wr => ∃ q : Nat, i = .int .i64 q ∧ q ≤ 3 ∧ Hid (Three wr tb 0 place (n2 : Int)) ∧ Hid (HB wr A4 0 xs) ∧ Hid (Below w.heap.size w wr)) (fun i _ => 3 - (intOf i).toNat)
    case atStart => exact ⟨0, rfl, by omega, hT, H9, B9⟩
    case round =>
      clear hT H9 B9
      obtain ⟨q, rfl, hq, hT, hX, hB⟩ := hrel
      by_cases hlt : q < 3
      · have d1 : decide ((q : Int) < 3) = true := decide_eq_true (by omega)
        have d2 : (q : Int) < 3 := by omega
        have hcell := hT.out q hlt
        obtain ⟨p, ep⟩ : ∃ p, [(0 : Int), place, (n2 : Int)].getD q 0 = p := ⟨_, rfl⟩
        rw [ep] at hcell
        clear ep
        go_wp2_with fail
        refine (Open_any A4 (0) c4 xs p wr (by omega) (by omega) (by omega) h41 hX).mono ?_
        rintro e w11 ⟨v11, rfl, r11, b11⟩
        have HX1 := Lib.hid (hX.out.below b11)
        obtain ⟨A11, n11, c11, rfl, H11, -, -, -, -⟩ := r11.slice
        go_wp2_with fail
        refine (RefOpen_any A4 (0) c4 xs p w11 (by omega) (by omega) (by omega) HX1).mono ?_
        rintro e w12 ⟨v12, rfl, r12, b12⟩
        obtain ⟨A12, n12, c12, rfl, H12, -, -, -, -⟩ := r12.slice
        have s1 := (H11.below b12).str c11
        have s2 := H12.str c12
        have B12 := Lib.hid (below_up b11 (below_up (Below.refl _ _) b12))
        obtain ⟨P, eP⟩ : ∃ P, (openR (xs) p).1 = P := ⟨_, rfl⟩
        obtain ⟨Q, eQ⟩ : ∃ Q, (openR (xs) p).2.1 = Q := ⟨_, rfl⟩
        obtain ⟨R, eR⟩ : ∃ R, (openR (xs) p).2.2 = R := ⟨_, rfl⟩
        have q1 := open_i_le (xs) p
        have q2 := open_e_le (xs) p
        rw [eQ] at q1 ⊢
        rw [eR] at q2 ⊢
        rw [eP] at s1 s2
        have u3 : ((Q : Int) != (Q : Int)) = false := by simp
        have u4 : ((R : Int) != (R : Int)) = false := by simp
        clear eP eQ eR H11 H12 r11 r12 b11 b12
        go_wp2_with fail
        go_roundw
        case rel => exact ⟨q + 1, by go_num, by omega, Lib.hid (hT.out.below B12.out), Lib.hid (hX.out.below B12.out), Lib.hid (below_up hB.out B12.out)⟩
        case measure => simp [intOf]; omega
      · obtain rfl : q = 3 := by omega
        go_wp2_with fail
        refine (Known_any _).mono ?_
        rintro e w25 ⟨rfl, b⟩
        have b := Lib.hid (below_up hB.out b)
        go_wp2_with fail
        go_ret
        exact ⟨rfl, b.out⟩
end Go.Proofs.Ytnjedfnaohdnfaa
