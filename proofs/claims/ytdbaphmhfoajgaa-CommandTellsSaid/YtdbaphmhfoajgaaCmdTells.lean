/-
  CommandTells, its walk.
-/
import Derived.Test.YtdbaphmhfoajgaaCmdLaws
import Derived.Laws.BitsAllLaws
import Derived.Deep.RegionHeld3
namespace Go.Proofs.Ytdbaphmhfoajgaa
open Go.RowKit
set_option linter.unusedVariables false
set_option linter.unusedSimpArgs false

set_option maxRecDepth 100000 in
set_option maxHeartbeats 1000000 in
theorem Tells_walk (k i n s p q l t : Int) (S : List UInt8) (A : Option Addr) (nb0 capb : Nat) (lbs : List UInt8) (at' : Int) (x : UInt8) (w : World) (kb : I64 k) (ib : I64 i) (nb : I64 n) (sb : I64 s) (pb : I64 p) (qb : I64 q) (lb : I64 l) (tb : I64 t) (hA : Hid (HB w A nb0 lbs)) (hAt : Hid (∀ ad, A = some ad → ad.block < w.heap.size ∧ ad.spot = none)) (q1 : nb0 ≤ capb) (q2 : capb ≤ 9223372036854775807) (q3 : Hid (A = none → capb = 0)) (t1 : -9223372036854775808 ≤ at') (t2 : at' ≤ 9223372036854775807) :
    Calls Try.prog 4 #[.agg #[.int .i64 k, .int .i64 i, .int .i64 n, .int .i64 s, .int .i64 p, .int .i64 q, .int .i64 l, .int .i64 t, .string (str S)], .slice A nb0 capb, .int .i64 at', .int .u8 x.toNat] w fun e w' => e = .returned (.bool true) ∧ Below w.heap.size w w' := by
  go_enter Try.func4, Try.ntmps4
  go_wp2_with fail
  obtain ⟨w0, ew⟩ : ∃ W, w.alloc (.cells #[.int .i64 k, .int .i64 i, .int .i64 n, .int .i64 s, .int .i64 p, .int .i64 q, .int .i64 l, .int .i64 t, .string (str S)] 23) = W := ⟨_, rfl⟩
  obtain ⟨cb, ecb⟩ : ∃ cb, w.heap.size = cb := ⟨_, rfl⟩
  have hcb : w.heap.size ≤ cb := by omega
  have B0 : Hid (Below w.heap.size w w0) := Lib.hid (by rw [← ew]; exact (Below.refl _ w).alloc (Nat.le_refl _) _)
  have C0 : Hid (w0.heap[cb]? = some (.cells #[.int .i64 k, .int .i64 i, .int .i64 n, .int .i64 s, .int .i64 p, .int .i64 q, .int .i64 l, .int .i64 t, .string (str S)] 23 (0, 0))) := Lib.hid (by rw [← ew, ← ecb]; exact heap_alloc_new w _)
  rw [ew, ecb]
  clear ew ecb
  refine (LShort_any k i n s p q l t S w0).mono ?_
  rintro e w1 ⟨rfl, b1⟩
  have hU := take60 S
  obtain ⟨U, eU⟩ : ∃ U, S.take 60 = U := ⟨_, rfl⟩
  rw [eU] at hU ⊢
  clear eU
  have C1 := (b1.block cb (Array.getElem?_eq_some_iff.1 C0.out).1).trans C0.out
  obtain ⟨fr0, fr1, fr2, fr3, fr4, fr5, fr6, fr7, fr8, m0, m1, m2, m3, m4, m5, m6, m7, m8⟩ := block9 C1
  replace C1 := Lib.hid C1
  have B1 := Lib.hid (B0.out.trans (b1.mono B0.out.size))
  clear b1 B0 C0
  go_upto_region 2 with (fail)
  rw [set9 _ _ _ _ _ _ _ _ _ C1.out]
  have C2 : Hid ((w1.setRow cb #[.int .i64 k, .int .i64 i, .int .i64 n, .int .i64 s, .int .i64 p, .int .i64 q, .int .i64 l, .int .i64 t, .string (str U)]).heap[cb]? = some (.cells #[.int .i64 k, .int .i64 i, .int .i64 n, .int .i64 s, .int .i64 p, .int .i64 q, .int .i64 l, .int .i64 t, .string (str U)] 23 (0, 0))) := Lib.hid (setRow_heap _ _ _ _ _ _ C1.out)
  have B2 : Hid (Below w.heap.size w (w1.setRow cb #[.int .i64 k, .int .i64 i, .int .i64 n, .int .i64 s, .int .i64 p, .int .i64 q, .int .i64 l, .int .i64 t, .string (str U)])) := Lib.hid (below_setRow B1.out hcb _)
  obtain ⟨w2, ew⟩ : ∃ W, w1.setRow cb #[.int .i64 k, .int .i64 i, .int .i64 n, .int .i64 s, .int .i64 p, .int .i64 q, .int .i64 l, .int .i64 t, .string (str U)] = W := ⟨_, rfl⟩
  rw [ew] at C2 B2 ⊢
  clear ew C1 B1 fr0 fr1 fr2 fr3 fr4 fr5 fr6 fr7 fr8 m0 m1 m2 m3 m4 m5 m6 m7 m8
  have hp := fun W => PEncode_any ⟨k, i, n, s, p, q, l, t, U⟩ W (show C.Ok ⟨k, i, n, s, p, q, l, t, U⟩ from ⟨kb, ib, nb, sb, pb, qb, lb, tb, fun _ => Nat.le_trans hU (by omega)⟩)
  have hr := fun W => REncode_any ⟨k, i, n, s, p, q, l, t, U⟩ W (show C.Ok ⟨k, i, n, s, p, q, l, t, U⟩ from ⟨kb, ib, nb, sb, pb, qb, lb, tb, fun _ => Nat.le_trans hU (by omega)⟩)
  have hXl := encR_len ⟨k, i, n, s, p, q, l, t, U⟩
  have HP := fun W => PRight_any ⟨k, i, n, s, p, q, l, t, U⟩ W (fun _ => Nat.le_trans hU (by omega))
  have HRR := fun W => RRight_any ⟨k, i, n, s, p, q, l, t, U⟩ W (fun _ => Nat.le_trans hU (by omega))
  obtain ⟨X, eX⟩ : ∃ X, encR ⟨k, i, n, s, p, q, l, t, U⟩ = X := ⟨_, rfl⟩
  obtain ⟨E, eE⟩ : ∃ E, C.right ⟨k, i, n, s, p, q, l, t, U⟩ = E := ⟨_, rfl⟩
  rw [eX] at hXl
  simp only [eX, eE] at hp hr HP HRR
  rw [show (C.val ⟨k, i, n, s, p, q, l, t, U⟩) = .agg #[.int .i64 k, .int .i64 i, .int .i64 n, .int .i64 s, .int .i64 p, .int .i64 q, .int .i64 l, .int .i64 t, .string (str U)] from rfl] at HP HRR
  replace hp := Lib.hid hp
  replace hr := Lib.hid hr
  replace HP := Lib.hid HP
  replace HRR := Lib.hid HRR
  replace eX := Lib.hid eX
  replace eE := Lib.hid eE
  obtain ⟨j0, j1, j2, j3, j4, j5, j6, j7, j8⟩ := cmd_at C2.out
  go_wp2_with fail
  refine (hp.out w2).mono ?_
  rintro e w3 ⟨r1, rfl, R1, b3⟩
  have C3 := Lib.hid ((b3.block cb (Array.getElem?_eq_some_iff.1 C2.out).1).trans C2.out)
  have B3 := Lib.hid (B2.out.trans (b3.mono B2.out.size))
  clear j0 j1 j2 j3 j4 j5 j6 j7 j8 b3 hp
  obtain ⟨A1, n1, c1, rfl, en1, S1⟩ := R1.src (by omega)
  replace R1 := Lib.hid R1
  replace en1 := Lib.hid en1
  replace S1 := Lib.hid S1
  obtain ⟨j0, j1, j2, j3, j4, j5, j6, j7, j8⟩ := cmd_at C3.out
  go_wp2_with fail
  refine (hr.out w3).mono ?_
  rintro e w4 ⟨r2, rfl, R2, b4⟩
  have C4 := Lib.hid ((b4.block cb (Array.getElem?_eq_some_iff.1 C3.out).1).trans C3.out)
  have B4 := Lib.hid (B3.out.trans (b4.mono B3.out.size))
  replace S1 := Lib.hid (S1.out.below b4)
  replace R1 := Lib.hid (rb_keep R1.out b4)
  clear j0 j1 j2 j3 j4 j5 j6 j7 j8 b4 hr
  obtain ⟨A2, n2, c2, rfl, en2, S2⟩ := R2.src (by omega)
  replace R2 := Lib.hid R2
  replace en2 := Lib.hid en2
  replace S2 := Lib.hid S2
  have hof : Hid (∀ W : World, Below w4.heap.size w4 W → (fun W : World => W.cell? ⟨cb, 0, none⟩ = some (.int .i64 k) ∧ W.cell? ⟨cb, 1, none⟩ = some (.int .i64 i) ∧ W.cell? ⟨cb, 2, none⟩ = some (.int .i64 n) ∧ W.cell? ⟨cb, 3, none⟩ = some (.int .i64 s) ∧ W.cell? ⟨cb, 4, none⟩ = some (.int .i64 p) ∧ W.cell? ⟨cb, 5, none⟩ = some (.int .i64 q) ∧ W.cell? ⟨cb, 6, none⟩ = some (.int .i64 l) ∧ W.cell? ⟨cb, 7, none⟩ = some (.int .i64 t) ∧ W.cell? ⟨cb, 8, none⟩ = some (.string (str U)) ∧ (convert 27 9 (.slice A1 n1 c1)).run Try.prog W = .ok (.string (str X)) W ∧ (convert 27 9 (.slice A2 n2 c2)).run Try.prog W = .ok (.string (str X)) W ∧ Below w4.heap.size w4 W) W) := Lib.hid (fun W b => by
    obtain ⟨j0, j1, j2, j3, j4, j5, j6, j7, j8⟩ := cmd_at ((b.block cb (Array.getElem?_eq_some_iff.1 C4.out).1).trans C4.out)
    exact ⟨j0, j1, j2, j3, j4, j5, j6, j7, j8, (S1.out.below b).str, (S2.out.below b).str, b⟩)
  have hz0 := hof.out _ ((Below.refl w4.heap.size w4).drew)
  have hsrc : Hid (∀ W : World, Below w4.heap.size w4 W → Src W A (min nb0 100) capb (lbs.take 100) ∧ Src W A2 n2 c2 X) := Lib.hid (fun W b => by
    have B := B4.out.trans (b.mono B4.out.size)
    exact ⟨Src.take 100 (hA.out.below B) (fun ad e => ⟨Nat.lt_of_lt_of_le (hAt.out ad e).1 B.size, (hAt.out ad e).2⟩) q1 q2 q3.out (by omega), S2.out.below b⟩)
  have hAp : Hid (0 < nb0 → ∃ b off, A = some ⟨b, off, none⟩) := Lib.hid (fun h0 => by obtain ⟨b, off, e, _⟩ := hA.out.2 h0; exact ⟨b, off, e⟩)
  have HK := fun W => KCut_any A nb0 capb 100 W (by omega) (by omega) q1 q2 hAp.out
  replace HK := Lib.hid HK
  have i1 : ((E : Int) != (E : Int)) = false := by simp
  (try simp only at hz0)
  go_wp2_with fail
  go_region_held3 (fun W : World => W.cell? ⟨cb, 0, none⟩ = some (.int .i64 k) ∧ W.cell? ⟨cb, 1, none⟩ = some (.int .i64 i) ∧ W.cell? ⟨cb, 2, none⟩ = some (.int .i64 n) ∧ W.cell? ⟨cb, 3, none⟩ = some (.int .i64 s) ∧ W.cell? ⟨cb, 4, none⟩ = some (.int .i64 p) ∧ W.cell? ⟨cb, 5, none⟩ = some (.int .i64 q) ∧ W.cell? ⟨cb, 6, none⟩ = some (.int .i64 l) ∧ W.cell? ⟨cb, 7, none⟩ = some (.int .i64 t) ∧ W.cell? ⟨cb, 8, none⟩ = some (.string (str U)) ∧ (convert 27 9 (.slice A1 n1 c1)).run Try.prog W = .ok (.string (str X)) W ∧ (convert 27 9 (.slice A2 n2 c2)).run Try.prog W = .ok (.string (str X)) W ∧ Below w4.heap.size w4 W) (first | with_reducible assumption | with_reducible exact hz0)
    (first
     | (go_at_call 12; refine (HP.out _).mono ?_; rintro e w5 ⟨rfl, b5⟩; have D5 := ((Below.refl w4.heap.size w4).drew).trans b5; have z5 := hof.out _ D5; replace D5 := Lib.hid D5)
     | (go_at_call 13; refine (HRR.out _).mono ?_; rintro e w6 ⟨rfl, b6⟩; have D6 := D5.out.trans (b6.mono D5.out.size); have z6 := hof.out _ D6; replace D6 := Lib.hid D6)
     | (go_at_call 23; refine (HK.out _).mono ?_; rintro e w6 ⟨rfl, rfl⟩)
     | (go_at_call 14; (with_reducible refine (LRead_any A (min nb0 100) capb (lbs.take 100) _ (Lib.hid (hsrc.out _ D6.out).1)).mono ?_); rintro e w7 ⟨rfl, b7⟩; have D7 := D6.out.trans (b7.mono D6.out.size); have z7 := hof.out _ D7; replace D7 := Lib.hid D7)
     | (go_at_call 14; (with_reducible refine (LRead_any A2 n2 c2 X _ (Lib.hid (hsrc.out _ D7.out).2)).mono ?_); rintro e w8 ⟨rfl, b8⟩; have D8 := D7.out.trans (b8.mono D7.out.size); have z8 := hof.out _ D8; replace D8 := Lib.hid D8))
  have B8 := Lib.hid (B4.out.trans (D8.out.mono B4.out.size))
  have hX := en2.out
  have T8 := Lib.hid (rb_keep R2.out D8.out)
  have Y8 := Lib.hid (hsrc.out _ D8.out).2
  have hsz8 := Lib.hid B8.out.size
  have hb3 : w.heap.size ≤ w3.heap.size := B3.out.size
  clear D5 D6 D7 D8 z5 z6 z7 z8 hz0 hof hsrc HK HP HRR hAp R1 R2 S1 S2 C2 C3 C4 B2 B3 B4 i1
  by_cases h0 : 0 < n2
  · obtain ⟨m, em⟩ : ∃ m, n2 = m + 1 := ⟨n2 - 1, by omega⟩
    obtain ⟨g, rfl, hg⟩ := rb_first' T8.out (show 0 < X.length by omega)
    have hm := withinN_le at' m
    have HW := fun W => Within_any at' m W (by omega) t1 t2
    obtain ⟨j, ej⟩ : ∃ j, withinN at' m = j := ⟨_, rfl⟩
    rw [ej] at hm
    simp only [ej] at HW
    clear ej
    replace HW := Lib.hid HW
    obtain ⟨cj, fj⟩ := rb_cell (show X.length = n2 by omega) T8.out j (by omega)
    obtain ⟨p8, ep⟩ : ∃ p8, X.getD j 0 = p8 := ⟨_, rfl⟩
    rw [ep] at cj
    clear ep
    unfold bc at cj
    have hx8 := u8_xor_byte p8 x
    obtain ⟨z8, ez8⟩ : ∃ z, p8 ^^^ x = z := ⟨_, rfl⟩
    rw [ez8] at hx8
    clear ez8
    have N8 := (rb_stored (show X.length = n2 by omega) T8.out j z8).1
    have Z8 := Lib.hid (B8.out.setCell (p := ⟨g, j, none⟩) (show w.heap.size ≤ g by omega) (bc z8))
    obtain ⟨A9, n9, c9, e9, en9, S9⟩ := N8.src (by rw [List.length_set]; omega)
    injection e9 with e9a e9b e9c
    subst e9a; subst e9b; subst e9c
    replace S9 := Lib.hid S9
    have d1 : decide ((0 : Int) < (n2 : Int)) = true := decide_eq_true (by omega)
    have d2 := Lib.hid (show (n2 : Int) - 1 = (m : Int) by omega)
    have d3 : (0 : Int) ≤ (j : Int) := by omega
    have d4 : (j : Int) < (n2 : Int) := by omega
    have d5 : j < n2 := by omega
    have d7 : n2 ≤ 300 := by omega
    clear hm em
    replace en9 := Lib.hid en9
    replace hX := Lib.hid hX
    clear N8 T8 Y8 en1 en2
    go_wp2_with fail
    rw [d2.out]
    refine (HW.out _).mono ?_
    rintro e w8 ⟨rfl, rfl⟩
    go_wp2_with fail
    rw [show Value.int IntKind.u8 (z8.toNat : Int) = bc z8 from rfl]
    obtain ⟨wz, ew⟩ : ∃ W, w8.setCell ⟨g, j, none⟩ (bc z8) = W := ⟨_, rfl⟩
    rw [ew] at S9 Z8 ⊢
    clear ew
    refine (LRead_any _ _ _ _ _ S9).mono ?_
    rintro e wa ⟨rfl, ba⟩
    have Ba := Lib.hid (Z8.out.trans (ba.mono Z8.out.size))
    go_wp2_with fail
    refine (LKnown_any _).mono ?_
    rintro e wd ⟨rfl, bd⟩
    have Bd := Lib.hid (Ba.out.trans (bd.mono Ba.out.size))
    go_wp2_with fail
    go_ret
    exact ⟨rfl, Bd.out⟩
  · have d1 : decide ((0 : Int) < ((n2 : Nat) : Int)) = false := decide_eq_false (by omega)
    replace hX := Lib.hid hX
    go_wp2_with fail
    refine (LRead_any _ _ _ _ _ Y8).mono ?_
    rintro e wa ⟨rfl, ba⟩
    have Ba := Lib.hid (B8.out.trans (ba.mono B8.out.size))
    go_wp2_with fail
    refine (LKnown_any _).mono ?_
    rintro e wd ⟨rfl, bd⟩
    have Bd := Lib.hid (Ba.out.trans (bd.mono Ba.out.size))
    go_wp2_with fail
    go_ret
    exact ⟨rfl, Bd.out⟩
end Go.Proofs.Ytdbaphmhfoajgaa
