/-
  Contract: All, of the document.
-/
import Derived.Test.YtjhfgajhmenboaaDoorRepAllP
import Derived.Test.YtjhfgajhmenboaaDoorRepEncR
namespace Go.Proofs.YtjhfgajhmenboaaDoor
open Go.RowKit
set_option linter.unusedVariables false
set_option linter.unusedSimpArgs false

set_option maxRecDepth 100000 in
set_option maxHeartbeats 1000000 in
theorem RAll_any (A : Option Addr) (n cap : Nat) (L : List Q) (w : World) (hn : n ≤ 100000) (hc1 : n ≤ cap) (hc2 : cap ≤ 9223372036854775807) (h : Hid (HR w A n L)) (hO : Hid (OkL L)) :
    Calls Tryd.prog 16 #[.slice A n cap] w fun e w' => ∃ v, e = .returned v ∧ RB w' w.heap.size v (allQ L) ∧ Below w.heap.size w w' := by
  obtain ⟨i0, hi0, hz0, hz1, hz2⟩ := info_parts info_u8
  have hL := Lib.hid h.out.1
  have b1 : Hid (Below w.heap.size w w) := Lib.hid (Below.refl _ _)
  obtain ⟨T0, eT0⟩ : ∃ T, allQ (L.take 0) = T := ⟨_, rfl⟩
  have R1 : Hid (RB w w.heap.size (.slice none 0 0) T0) := Lib.hid (by rw [← eT0, List.take_zero]; exact rb_nil _ _)
  obtain ⟨g, eg⟩ : ∃ g, w.heap.size = g := ⟨_, rfl⟩
  rw [eg] at R1
  have eg := Lib.hid eg
  have eT0 := Lib.hid eT0
  go_enter Tryd.func16, Tryd.ntmps16
  go_wp2_with fail
  go_loopw [3, 4] (fun v i wr => ∃ k : Nat, i = .int .i64 k ∧ k ≤ n ∧ Hid (RB wr g v (allQ (L.take k))) ∧ Hid (Below w.heap.size w wr)) (fun _ i _ => (n - intOf i).toNat)
  case atStart => exact ⟨0, rfl, by omega, Lib.hid (by rw [eT0.out]; exact R1.out), b1⟩
  case round =>
    clear R1 b1 eT0
    obtain ⟨k, rfl, hk, hR, hW⟩ := hrel
    by_cases hlt : k < n
    · have d1 : decide ((k : Int) < (n : Int)) = true := decide_eq_true (by omega)
      have d3 : (k : Int) < (n : Int) := by omega
      obtain ⟨ba, oa, rfl, c0, c1, c2, c3, c4, c5, c6, c7⟩ := (h.out.below hW.out).2 k hlt
      have hnx := Lib.hid (allQ_next (L := L) (k := k) (by rw [hL.out]; exact hlt))
      have hal := allQ_len (L.take k)
      have htk := take_len_le L k
      have hok := Lib.hid (hO.out.get k)
      obtain ⟨r, er⟩ : ∃ r, L.getD k zeroQ = r := ⟨_, rfl⟩
      rw [er] at c0 c1 c2 c3 c4 c5 c6 c7 hnx hok
      clear er
      obtain ⟨T, eT⟩ : ∃ T, allQ (L.take k) = T := ⟨_, rfl⟩
      rw [eT] at hnx hR hal
      clear eT
      obtain ⟨k', i', n', s', p', q', l', y'⟩ := r
      simp only at c0 c1 c2 c3 c4 c5 c6 c7
      have R1 := hR
      have B1 := hW
      obtain ⟨w1, ew1⟩ : ∃ W, wr = W := ⟨_, rfl⟩
      subst ew1
      go_wp2_with fail
      refine (REncode_any ⟨k', i', n', s', p', q', l', y'⟩ wr hok.out).mono ?_
      rintro e w2 ⟨v2, rfl, r2, b2⟩
      have R2 := Lib.hid (R1.out.only (only_below b2) (fun _ _ e => e))
      have B2 := Lib.hid (below_up B1.out b2)
      clear c0 c1 c2 c3 c4 c5 c6 c7
      by_cases hr : Q.Right ⟨k', i', n', s', p', q', l', y'⟩
      · rw [encE_yes hr]
        rw [encR_yes hr] at r2
        rw [frQ_yes hr] at hnx
        obtain ⟨A2, n2, c2, rfl, H2, h21, h22, h23, h24⟩ := r2.slice
        have hel := encQ_len ⟨k', i', n', s', p', q', l', y'⟩
        obtain ⟨E, eE⟩ : ∃ E, encQ ⟨k', i', n', s', p', q', l', y'⟩ = E := ⟨_, rfl⟩
        rw [eE] at H2 hnx h24 hel
        have H2 := Lib.hid H2
        clear eE r2 b2 R1 B1 hr
        go_wp2_with fail
        refine (RefFrame_any A2 n2 c2 E w2 (by omega) h21 H2).mono ?_
        rintro e w3 ⟨v3, rfl, r3, b3⟩
        have R3 := Lib.hid (R2.out.only (only_below b3) (fun _ _ e => e))
        have B3 := Lib.hid (below_up B2.out b3)
        obtain ⟨A3, n3, c3, rfl, H3, h31, h32, h33, h34⟩ := r3.slice
        have hfl := frameL_len E
        have H3 := Lib.hid H3
        have bz3 : g ≤ w3.heap.size := by rw [← eg.out]; exact B3.out.size
        clear r3 b3 R2 B2 H2
        go_wp2_with (at_builtin; refine wpList_onto_b (by rfl) (.tmp 30) (.tmp 31) 26 (by rfl) g i0 Tryd.underlying26 hi0 hz0 hz1 hz2 _ _ (by rfl) R3.out A3 n3 c3 (frameL E) (by rfl) H3.out h31 (by omega) bz3 ?_)
        intro v4 w4 r4 g4 o4
        have B4 := Lib.hid (B3.out.grown g4 B3.out.size (fun q hq => by rw [eg.out]; exact (R3.out.blk hq).1))
        have R4 := Lib.hid r4
        clear r4 g4 o4 R3 B3 H3
        go_wp2_with fail
        go_roundw
        case rel => exact ⟨k + 1, by go_num, by omega, Lib.hid (by rw [hnx.out]; exact R4.out), B4⟩
        case measure => simp [intOf]; omega
      · rw [encE_no hr]
        rw [frQ_no hr, List.append_nil] at hnx
        clear r2 b2 R1 B1 hr
        go_wp2_with fail
        go_roundw
        case rel => exact ⟨k + 1, by go_num, by omega, Lib.hid (by rw [hnx.out]; exact R2.out), B2⟩
        case measure => simp [intOf]; omega
    · obtain rfl : k = n := by omega
      have d1 : decide ((k : Int) < (k : Int)) = false := by simp
      have hall := hR.out
      rw [List.take_of_length_le (by rw [hL.out]; exact Nat.le_refl _), ← eg.out] at hall
      have hall := Lib.hid hall
      clear hR
      go_wp2_with fail
      go_ret
      exact ⟨_, rfl, hall.out, hW.out⟩
end Go.Proofs.YtjhfgajhmenboaaDoor
