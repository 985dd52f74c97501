/-
  The law ReportTells: a list that is cut.
-/
import Derived.Test.YtjhfgajhmenboaaDoorRepLaw
import Derived.Test.YtjhfgajhmenboaaDoorRepAllR
import Derived.Test.YtjhfgajhmenboaaDoorRepTextR
import Derived.Test.YtjhfgajhmenboaaDoorRoomy
import Derived.Laws.BitsAllLaws
import Derived.Deep.RegionHeld3
namespace Go.Proofs.YtjhfgajhmenboaaDoor
open Go.RowKit
set_option linter.unusedVariables false
set_option linter.unusedSimpArgs false

set_option maxRecDepth 100000 in
set_option maxHeartbeats 6400000 in
theorem Tells_way2 (A0 : Option Addr) (n0 cap0 : Nat) (L0 : List Q) (A : Option Addr) (nb0 capb : Nat) (lbs : List UInt8) (at' : Int) (x : UInt8) (w : World) (hH0 : Hid (HR w A0 n0 L0)) (hO0 : OkL L0) (p1 : n0 ≤ cap0) (p2 : cap0 ≤ 9223372036854775807) (hA : Hid (HB w A nb0 lbs)) (hAt : Hid (∀ ad, A = some ad → ad.block < w.heap.size ∧ ad.spot = none)) (q1 : nb0 ≤ capb) (q2 : capb ≤ 9223372036854775807) (q3 : Hid (A = none → capb = 0)) (t1 : -9223372036854775808 ≤ at') (t2 : at' ≤ 9223372036854775807) (h0 : 15 < n0) (hT : Hid (Tab w)) :
    Calls Tryd.prog 4 #[.slice A0 n0 cap0, .slice A nb0 capb, .int .i64 at', .int .u8 x.toNat] w fun e w' => e = .returned (.bool true) ∧ Below w.heap.size w w' := by
  have dcut : decide ((15 : Int) < (n0 : Int)) = true := decide_eq_true (by omega)
  have dcut' : (15 : Int) < (n0 : Int) := by omega
  obtain ⟨bh, oh, rfl, -⟩ := hH0.out.2 0 (by omega)
  have hH : Hid (HR w (some ⟨bh, oh, none⟩) 15 (L0.take 15)) := Lib.hid (hH0.out.take (by omega))
  have hO : Hid (OkL (L0.take 15)) := Lib.hid (hO0.take 15)
  obtain ⟨L, eL⟩ : ∃ L, L0.take 15 = L := ⟨_, rfl⟩
  rw [eL] at hH hO
  have hc15 : 15 ≤ cap0 := by omega
  clear eL hO0 hH0
  have b1 : Hid (Below w.heap.size w w) := Lib.hid (Below.refl _ _)
  go_enter Tryd.func4, Tryd.ntmps4
  go_wp2_with fail
  go_loopw [9] (fun i wr => ∃ k : Nat, i = .int .i64 k ∧ k ≤ 15 ∧ Hid (Below w.heap.size w wr)) (fun i _ => (15 - intOf i).toNat)
  case atStart => exact ⟨0, rfl, by omega, b1⟩
  case round =>
    clear b1
    obtain ⟨k, rfl, hk, hW⟩ := hrel
    by_cases hlt : k < 15
    · have d1 : decide ((k : Int) < (15 : Int)) = true := decide_eq_true (by omega)
      have d3 : (k : Int) < (15 : Int) := by omega
      obtain ⟨ba, oa, eA, hc⟩ := hH.out.2 k hlt
      injection eA with eA
      injection eA with eb eo
      subst eb
      subst eo
      clear hc
      have hok := hO.out.get k
      have hcell : Hid (∀ W : World, Below w.heap.size w W → W.cell? ⟨bh, oh + k * 8, none⟩ = some (.int .i64 (L.getD k zeroQ).k) ∧ W.cell? ⟨bh, oh + k * 8 + 1, none⟩ = some (.int .i64 (L.getD k zeroQ).i) ∧ W.cell? ⟨bh, oh + k * 8 + 2, none⟩ = some (.int .i64 (L.getD k zeroQ).n) ∧ W.cell? ⟨bh, oh + k * 8 + 3, none⟩ = some (.int .i64 (L.getD k zeroQ).s) ∧ W.cell? ⟨bh, oh + k * 8 + 4, none⟩ = some (.int .i64 (L.getD k zeroQ).p) ∧ W.cell? ⟨bh, oh + k * 8 + 5, none⟩ = some (.int .i64 (L.getD k zeroQ).q) ∧ W.cell? ⟨bh, oh + k * 8 + 6, none⟩ = some (.int .i64 (L.getD k zeroQ).l) ∧ W.cell? ⟨bh, oh + k * 8 + 7, none⟩ = some (.int .i64 (L.getD k zeroQ).y)) := Lib.hid (fun W b => by
        obtain ⟨b2, o2, e, c⟩ := (hH.out.below b).2 k hlt
        injection e with e
        injection e with e1 e2
        subst e1
        subst e2
        exact c)
      obtain ⟨r, er⟩ : ∃ r, L.getD k zeroQ = r := ⟨_, rfl⟩
      rw [er] at hok hcell
      clear er
      have hp := fun W => PEncode_any r W hok
      have hr := fun W => REncode_any r W hok
      have HPT := fun W (t : Tab W) => PText_any r W hok (Lib.hid t)
      have HRT := fun W => RText_any r W hok
      have hXl := encR_len r
      obtain ⟨X, eX⟩ : ∃ X, encR r = X := ⟨_, rfl⟩
      obtain ⟨E, eE⟩ : ∃ E, encE r = E := ⟨_, rfl⟩
      obtain ⟨TX, eT⟩ : ∃ T, textQ r = T := ⟨_, rfl⟩
      rw [eX] at hXl
      simp only [eX, eE] at hp hr
      simp only [eT] at HPT HRT
      clear eX eE eT
      obtain ⟨k', i', n', s', p', q', l', y'⟩ := r
      simp only at hcell
      rw [show (Q.mk k' i' n' s' p' q' l' y').val = .agg #[.int .i64 k', .int .i64 i', .int .i64 n', .int .i64 s', .int .i64 p', .int .i64 q', .int .i64 l', .int .i64 y'] from rfl] at hp hr HPT HRT
      replace hp := Lib.hid hp
      replace hr := Lib.hid hr
      replace HPT := Lib.hid HPT
      replace HRT := Lib.hid HRT
      clear hok
      obtain ⟨j0, j1, j2, j3, j4, j5, j6, j7⟩ := hcell.out wr hW.out
      go_wp2_with fail
      refine (hp.out wr).mono ?_
      rintro e w3 ⟨r1, rfl, R1, b3⟩
      have B3 := Lib.hid (below_up hW.out b3)
      clear j0 j1 j2 j3 j4 j5 j6 j7 b3 hp
      obtain ⟨A1, n1, c1, rfl, en1, S1⟩ := R1.src (by omega)
      replace S1 := Lib.hid S1
      replace en1 := Lib.hid en1
      clear R1
      obtain ⟨j0, j1, j2, j3, j4, j5, j6, j7⟩ := hcell.out w3 B3.out
      go_wp2_with fail
      refine (hr.out w3).mono ?_
      rintro e w4 ⟨r2, rfl, R2, b4⟩
      have B4 := Lib.hid (below_up B3.out b4)
      replace S1 := Lib.hid (S1.out.below b4)
      clear j0 j1 j2 j3 j4 j5 j6 j7 b4 hr B3 hW
      obtain ⟨A2, n2, c2, rfl, en2, S2⟩ := R2.src (by omega)
      have hn2 : n2 ≤ 1000000 := by omega
      replace S2 := Lib.hid S2
      replace en2 := Lib.hid en2
      clear R2
      have hof : Hid (∀ W : World, Below w4.heap.size w4 W → (fun W : World => W.cell? ⟨bh, oh + k * 8, none⟩ = some (.int .i64 k') ∧ W.cell? ⟨bh, oh + k * 8 + 1, none⟩ = some (.int .i64 i') ∧ W.cell? ⟨bh, oh + k * 8 + 2, none⟩ = some (.int .i64 n') ∧ W.cell? ⟨bh, oh + k * 8 + 3, none⟩ = some (.int .i64 s') ∧ W.cell? ⟨bh, oh + k * 8 + 4, none⟩ = some (.int .i64 p') ∧ W.cell? ⟨bh, oh + k * 8 + 5, none⟩ = some (.int .i64 q') ∧ W.cell? ⟨bh, oh + k * 8 + 6, none⟩ = some (.int .i64 l') ∧ W.cell? ⟨bh, oh + k * 8 + 7, none⟩ = some (.int .i64 y') ∧ (convert 26 9 (.slice A1 n1 c1)).run Tryd.prog W = .ok (.string (str X)) W ∧ (convert 26 9 (.slice A2 n2 c2)).run Tryd.prog W = .ok (.string (str X)) W ∧ Below w4.heap.size w4 W) W) := Lib.hid (fun W b => by
        obtain ⟨j0, j1, j2, j3, j4, j5, j6, j7⟩ := hcell.out W (below_up B4.out b)
        exact ⟨j0, j1, j2, j3, j4, j5, j6, j7, (S1.out.below b).str, (S2.out.below b).str, b⟩)
      have hz0 := hof.out _ ((Below.refl w4.heap.size w4).drew)
      have hTab4 : Hid (∀ W : World, Below w4.heap.size w4 W → Tab W) := Lib.hid (fun W b => hT.out.below (below_up B4.out b))
      have hsrc : Hid (∀ W : World, Below w4.heap.size w4 W → Src W A2 n2 c2 X) := Lib.hid (fun W b => S2.out.below b)
      have i1 : ((E : Int) != (E : Int)) = false := by simp
      (try simp only at hz0)
      go_wp2_with fail
      go_region_held3 (fun W : World => W.cell? ⟨bh, oh + k * 8, none⟩ = some (.int .i64 k') ∧ W.cell? ⟨bh, oh + k * 8 + 1, none⟩ = some (.int .i64 i') ∧ W.cell? ⟨bh, oh + k * 8 + 2, none⟩ = some (.int .i64 n') ∧ W.cell? ⟨bh, oh + k * 8 + 3, none⟩ = some (.int .i64 s') ∧ W.cell? ⟨bh, oh + k * 8 + 4, none⟩ = some (.int .i64 p') ∧ W.cell? ⟨bh, oh + k * 8 + 5, none⟩ = some (.int .i64 q') ∧ W.cell? ⟨bh, oh + k * 8 + 6, none⟩ = some (.int .i64 l') ∧ W.cell? ⟨bh, oh + k * 8 + 7, none⟩ = some (.int .i64 y') ∧ (convert 26 9 (.slice A1 n1 c1)).run Tryd.prog W = .ok (.string (str X)) W ∧ (convert 26 9 (.slice A2 n2 c2)).run Tryd.prog W = .ok (.string (str X)) W ∧ Below w4.heap.size w4 W) (first | with_reducible assumption | with_reducible exact hz0)
        (first
         | (go_at_call 10; refine (HPT.out _ (hTab4.out _ ((Below.refl w4.heap.size w4).drew))).mono ?_; rintro e w5 ⟨rfl, b5⟩; have D5 := ((Below.refl w4.heap.size w4).drew).trans b5; have z5 := hof.out _ D5; replace D5 := Lib.hid D5)
         | (go_at_call 11; refine (HRT.out _).mono ?_; rintro e w6 ⟨rfl, b6⟩; have D6 := D5.out.trans (b6.mono D5.out.size); have z6 := hof.out _ D6; replace D6 := Lib.hid D6)
         | (go_at_call 12; (with_reducible refine (LRead_any A2 n2 c2 X _ hn2 (Lib.hid (hsrc.out _ D6.out))).mono ?_); rintro e w7 ⟨rfl, b7⟩; have D7 := D6.out.trans (b7.mono D6.out.size); have z7 := hof.out _ D7; replace D7 := Lib.hid D7))
      have B7 := Lib.hid (below_up B4.out D7.out)
      clear D5 D6 D7 z5 z6 z7 hz0 hof hsrc hTab4 HPT HRT S1 S2 B4 i1 hcell
      go_wp2_with fail
      go_roundw
      case rel => exact ⟨k + 1, by go_num, by omega, B7⟩
      case measure => simp [intOf]; omega
    · obtain rfl : k = 15 := by omega
      have d1 : decide (((15 : Nat) : Int) < ((15 : Nat) : Int)) = false := by simp
      (try simp only at d1)
      have hRP := fun W (b : Below w.heap.size w W) => PAll_any (some ⟨bh, oh, none⟩) 15 cap0 L W (by omega) (by omega) p2 (Lib.hid (hH.out.below b)) hO
      have hRR := fun W (b : Below w.heap.size w W) => RAll_any (some ⟨bh, oh, none⟩) 15 cap0 L W (by omega) (by omega) p2 (Lib.hid (hH.out.below b)) hO
      have hXl := allQ_len L
      have hLl := hH.out.1
      obtain ⟨X, eX⟩ : ∃ X, allQ L = X := ⟨_, rfl⟩
      rw [eX] at hXl
      simp only [eX] at hRP hRR
      have hXl : X.length ≤ 630 := by omega
      replace hRP := Lib.hid hRP
      replace hRR := Lib.hid hRR
      clear eX hLl hO
      go_wp2_with fail
      refine (hRP.out wr hW.out).mono ?_
      rintro e w3 ⟨r1, rfl, R1, b3⟩
      have B3 := Lib.hid (below_up hW.out b3)
      obtain ⟨A1, n1, c1, rfl, en1, S1⟩ := R1.src (by omega)
      replace S1 := Lib.hid S1
      replace en1 := Lib.hid en1
      clear R1 b3 hRP hW
      go_wp2_with fail
      refine (hRR.out w3 B3.out).mono ?_
      rintro e w4 ⟨r2, rfl, R2, b4⟩
      have B4 := Lib.hid (below_up B3.out b4)
      replace S1 := Lib.hid (S1.out.below b4)
      obtain ⟨A2, n2, c2, rfl, en2, S2⟩ := R2.src (by omega)
      have hn2 : n2 ≤ 700 := by omega
      replace S2 := Lib.hid S2
      replace R2 := Lib.hid R2
      replace en2 := Lib.hid en2
      replace hXl := Lib.hid hXl
      have hw3 := B3.out.size
      clear b4 hRR B3
      have hsrc : Hid (∀ W : World, Below w4.heap.size w4 W → Src W A (min nb0 200) capb (lbs.take 200) ∧ Src W A2 n2 c2 X) := Lib.hid (fun W b => by
        have B := below_up B4.out b
        exact ⟨Src.take 200 (hA.out.below B) (fun ad e => ⟨Nat.lt_of_lt_of_le (hAt.out ad e).1 B.size, (hAt.out ad e).2⟩) q1 q2 q3.out (by omega), S2.out.below b⟩)
      have hAp : Hid (0 < nb0 → ∃ b off, A = some ⟨b, off, none⟩) := Lib.hid (fun h0 => by obtain ⟨b, off, e, _⟩ := hA.out.2 h0; exact ⟨b, off, e⟩)
      have HK := fun W => KCut_any A nb0 capb 200 W (by omega) (by omega) q1 q2 hAp.out
      replace HK := Lib.hid HK
      have hm2 : min nb0 200 ≤ 1000000 := by omega
      have s1 : (convert 26 9 (.slice A1 n1 c1)).run Tryd.prog w4 = .ok (.string (str X)) w4 := S1.out.str
      have s2 : (convert 26 9 (.slice A2 n2 c2)).run Tryd.prog w4 = .ok (.string (str X)) w4 := S2.out.str
      go_wp2_with fail
      refine (LRead_any A2 n2 c2 X w4 (by omega) (Lib.hid (hsrc.out _ (Below.refl _ _)).2)).mono ?_
      rintro e w5 ⟨rfl, b5⟩
      have D5 := Lib.hid b5
      clear s1 s2 b5
      go_wp2_with fail
      refine (HK.out _).mono ?_
      rintro e w6 ⟨rfl, rfl⟩
      go_wp2_with fail
      refine (LRead_any A (min nb0 200) capb (lbs.take 200) _ hm2 (Lib.hid (hsrc.out _ D5.out).1)).mono ?_
      rintro e w7 ⟨rfl, b7⟩
      have D7 := Lib.hid (D5.out.trans (b7.mono D5.out.size))
      have B8 := Lib.hid (below_up B4.out D7.out)
      have T8 := Lib.hid (rb_keep R2.out D7.out)
      have Y8 := Lib.hid (hsrc.out _ D7.out).2
      have hsz8 := Lib.hid B8.out.size
      have hb3 : w.heap.size ≤ w3.heap.size := hw3
      clear D5 D7 b7 hsrc HK hAp R2 S1 S2 B4
      by_cases h00 : 0 < n2
      · obtain ⟨m, em⟩ : ∃ m, n2 = m + 1 := ⟨n2 - 1, by omega⟩
        obtain ⟨g, rfl, hg⟩ := rb_first' T8.out (show 0 < X.length by have := en2.out; omega)
        have hm := withinN_le at' m
        have HW := fun W => Within_any at' m W (by omega) t1 t2
        obtain ⟨j, ej⟩ : ∃ j, withinN at' m = j := ⟨_, rfl⟩
        rw [ej] at hm
        simp only [ej] at HW
        clear ej
        replace HW := Lib.hid HW
        obtain ⟨cj, fj⟩ := rb_cell (show X.length = n2 from en2.out.symm) T8.out j (by omega)
        obtain ⟨p8, ep⟩ : ∃ p8, X.getD j 0 = p8 := ⟨_, rfl⟩
        rw [ep] at cj
        clear ep
        unfold bc at cj
        have hx8 := u8_xor_byte p8 x
        obtain ⟨z8, ez8⟩ : ∃ z, p8 ^^^ x = z := ⟨_, rfl⟩
        rw [ez8] at hx8
        clear ez8
        have N8 := (rb_stored (show X.length = n2 from en2.out.symm) T8.out j z8).1
        have Z8 := Lib.hid (B8.out.setCell (p := ⟨g, j, none⟩) (show w.heap.size ≤ g by omega) (bc z8))
        obtain ⟨A9, n9, c9, e9, en9, S9⟩ := N8.src (by rw [List.length_set]; have := hXl.out; omega)
        injection e9 with e9a e9b e9c
        subst e9a; subst e9b; subst e9c
        replace S9 := Lib.hid S9
        have d1 : decide ((0 : Int) < (n2 : Int)) = true := decide_eq_true (by omega)
        have d2 := Lib.hid (show (n2 : Int) - 1 = (m : Int) by omega)
        have d3 : (0 : Int) ≤ (j : Int) := by omega
        have d4 : (j : Int) < (n2 : Int) := by omega
        have d5 : j < n2 := by omega
        have d7 : n2 ≤ 700 := by omega
        clear hm em
        replace en9 := Lib.hid en9
        clear N8 T8 Y8
        go_wp2_with fail
        rw [d2.out]
        refine (HW.out _).mono ?_
        rintro e w8 ⟨rfl, rfl⟩
        go_wp2_with fail
        rw [show Value.int IntKind.u8 (z8.toNat : Int) = bc z8 from rfl]
        obtain ⟨wz, ew⟩ : ∃ W, w8.setCell ⟨g, j, none⟩ (bc z8) = W := ⟨_, rfl⟩
        rw [ew] at S9 Z8 ⊢
        clear ew
        refine (LRead_any _ _ _ _ _ (by omega) S9).mono ?_
        rintro e wa ⟨rfl, ba⟩
        have Ba := Lib.hid (Z8.out.trans (ba.mono Z8.out.size))
        go_wp2_with fail
        refine (Known_any _ (Lib.hid (hT.out.below Ba.out))).mono ?_
        rintro e wd ⟨rfl, bd⟩
        have Bd := Lib.hid (Ba.out.trans (bd.mono Ba.out.size))
        go_wp2_with fail
        go_ret
        exact ⟨rfl, Bd.out⟩
      · have d1 : decide ((0 : Int) < ((n2 : Nat) : Int)) = false := decide_eq_false (by omega)
        go_wp2_with fail
        refine (LRead_any _ _ _ _ _ (by omega) Y8).mono ?_
        rintro e wa ⟨rfl, ba⟩
        have Ba := Lib.hid (B8.out.trans (ba.mono B8.out.size))
        go_wp2_with fail
        refine (Known_any _ (Lib.hid (hT.out.below Ba.out))).mono ?_
        rintro e wd ⟨rfl, bd⟩
        have Bd := Lib.hid (Ba.out.trans (bd.mono Ba.out.size))
        go_wp2_with fail
        go_ret
        exact ⟨rfl, Bd.out⟩
end Go.Proofs.YtjhfgajhmenboaaDoor
