/-
  The law WireCrc: one way to its length.
-/
import Derived.Test.YtnjedfnaohdnfaaCrcRows
namespace Go.Proofs.Ytnjedfnaohdnfaa
open Go.RowKit
set_option linter.unusedVariables false
set_option linter.unusedSimpArgs false

set_option maxRecDepth 100000 in
set_option maxHeartbeats 4000000 in
theorem Crc_way1 (A B : Option Addr) (n m ca cb : Nat) (l r : List UInt8) (x : UInt8) (w : World) (hn : n ≤ ca) (hca : ca ≤ 9223372036854775807) (hm : m ≤ cb) (hcb : cb ≤ 9223372036854775807) (hA : A = none → n = 0 ∧ ca = 0) (hB : B = none → m = 0 ∧ cb = 0) (ha : Hid (HB w A n l)) (hb : Hid (HB w B m r)) (h1 : n ≤ m) (h2 : n ≤ 500) :
    Calls Try.prog 8 #[.slice A n ca, .slice B m cb, .int .u8 x.toNat] w fun e w' => e = .returned (.bool true) ∧ Below w.heap.size w w' := by
  obtain ⟨i0, hi0, hz0, hz1, hz2⟩ := info_parts info_u8
  obtain ⟨K, eK⟩ : ∃ K : Nat, n = K := ⟨_, rfl⟩
  have hK1 : K ≤ n := by omega
  have hK2 : K ≤ m := by omega
  have hK3 : K ≤ 500 := by omega
  have hl1 := Lib.hid (show K ≤ l.length by rw [ha.out.1]; exact hK1)
  have hl2 := Lib.hid (show K ≤ r.length by rw [hb.out.1]; exact hK2)
  have eK := eK.symm
  subst eK
  have d1 : decide ((m : Int) < (K : Int)) = false := decide_eq_false (by omega)
  have d2 : decide ((500 : Int) < (K : Int)) = false := decide_eq_false (by omega)
  go_enter Try.func8, Try.ntmps8
  go_upto_region 6 with (fail)
  clear d1 d2 h1 h2
  go_wp2_with (at_make; refine wpList_make_full _ (by rfl) (.tmp 21) (.tmp 21) 22 (by rfl) w.heap.size 5 i0 (.int .u8 0) 1 Try.underlying22 hi0 hz0 hz1 .i64 .i64 _ _ K (by rfl) (by rfl) rfl rfl (by rw [hz2]; omega) (by unfold maxLen; omega) (Nat.le_refl _) ?_)
  rw [zeros_bc]
  intro w1 r1 g1
  have b1 := Lib.hid ((Below.refl w.heap.size w).grown g1 (Nat.le_refl _) (fun k hk => by cases hk))
  have R1 : Hid (RB w1 w.heap.size (.slice (some ⟨w.heap.size, 0, none⟩) K K) (rowK (cF x) K 0)) := Lib.hid (by
    rw [rowK_zero]; unfold RB; rw [List.length_replicate]; exact r1)
  clear r1 g1
  have bz1 := b1.out.size
  go_wp2_with (at_make; refine wpList_make_full _ (by rfl) (.tmp 23) (.tmp 23) 22 (by rfl) w.heap.size 5 i0 (.int .u8 0) 1 Try.underlying22 hi0 hz0 hz1 .i64 .i64 _ _ K (by rfl) (by rfl) rfl rfl (by rw [hz2]; omega) (by unfold maxLen; omega) bz1 ?_)
  rw [zeros_bc]
  intro w2 r2 g2
  have o2 := only_grown g2
  have b2 := Lib.hid (b1.out.trans (o2.below bz1 (fun k _ e => by cases e)))
  have C2 := Lib.hid (R1.out.only o2 (fun k _ e => by cases e))
  have D2 : Hid (RB w2 w.heap.size (.slice (some ⟨w1.heap.size, 0, none⟩) K K) (rowK (dF l r x) K 0)) := Lib.hid (by
    rw [rowK_zero]; unfold RB; rw [List.length_replicate]; exact r2)
  have hgd := Lib.hid ((R1.out.blk (k := w.heap.size) rfl).2)
  obtain ⟨g, eg⟩ : ∃ g, w.heap.size = g := ⟨_, rfl⟩
  obtain ⟨d, ed⟩ : ∃ d, w1.heap.size = d := ⟨_, rfl⟩
  clear r2 g2 o2
  have C2 : Hid (RB w2 g (.slice (some ⟨g, 0, none⟩) K K) (rowK (cF x) K 0)) := by rw [← eg]; exact C2
  have D2 : Hid (RB w2 g (.slice (some ⟨d, 0, none⟩) K K) (rowK (dF l r x) K 0)) := by rw [← eg, ← ed]; exact D2
  have b2 : Hid (Below g w w2) := by rw [← eg]; exact b2
  have hgd : g < d := by rw [← eg, ← ed]; exact hgd.out
  have eg := Lib.hid eg
  go_wp2_with fail
  rw [eg.out, ed]
  clear ed
  go_loopw [10] (fun i wr => ∃ k : Nat, i = .int .i64 k ∧ k ≤ K ∧ Hid (RB wr g (.slice (some ⟨g, 0, none⟩) K K) (rowK (cF x) K k)) ∧ Hid (RB wr g (.slice (some ⟨d, 0, none⟩) K K) (rowK (dF l r x) K k)) ∧ Hid (Below g w wr)) (fun i _ => K - (intOf i).toNat)
  case atStart => exact ⟨0, rfl, by omega, C2, D2, b2⟩
  case round =>
    obtain ⟨k, rfl, hk, hC, hD, hW⟩ := hrel
    by_cases hlt : k < K
    · have t1 : decide ((k : Int) < (K : Int)) = true := decide_eq_true (by omega)
      have hcf := (cF_nat x k).symm
      obtain ⟨kc, kf⟩ := rb_cell (rowK_len _ _ _) hC.out k hlt
      unfold bc at kc
      obtain ⟨b1, o1, rfl, hc1⟩ := ha.out.2 (by omega)
      obtain ⟨b2, o2, rfl, hc2⟩ := hb.out.2 (by omega)
      have z1 := Below.setCell hW.out (p := ⟨g, k, none⟩) (Nat.le_refl _) (bc (cF x k))
      have z1' : Below w.heap.size w (wr.setCell ⟨g, k, none⟩ (bc (cF x k))) := by rw [eg.out]; exact z1
      have kA := (z1'.cell (p := ⟨b1, o1 + k, none⟩) (World.block_lt_of_cell? w _ (hc1 k (by omega)))).trans (hc1 k (by omega))
      have kB := (z1'.cell (p := ⟨b2, o2 + k, none⟩) (World.block_lt_of_cell? w _ (hc2 k (by omega)))).trans (hc2 k (by omega))
      obtain ⟨s1, s2⟩ := rb_stored (rowK_len _ _ _) hC.out k (cF x k)
      rw [rowK_set _ hlt] at s1
      have sD := hD.out.only (only_grown s2) (fun q hq e => by
        have e1 : d = q := by injection hq
        have e2 : q = g := by injection e
        omega)
      obtain ⟨kC, kCf⟩ := rb_cell (rowK_len _ _ _) s1 k hlt
      rw [rowK_get _ hlt, if_pos (by omega)] at kC
      obtain ⟨kD, kDf⟩ := rb_cell (rowK_len _ _ _) sD k hlt
      obtain ⟨p, ep⟩ : ∃ p, l.getD k 0 = p := ⟨_, rfl⟩
      obtain ⟨q, eq⟩ : ∃ q, r.getD k 0 = q := ⟨_, rfl⟩
      rw [ep] at kA
      rw [eq] at kB
      have eF : Hid (dF l r x k = p ^^^ q ^^^ cF x k) := Lib.hid (by unfold dF; rw [ep, eq])
      have y1 := u8_xor_byte p q
      have y2 := u8_xor_byte (p ^^^ q) (cF x k)
      obtain ⟨f, ef⟩ : ∃ f, cF x k = f := ⟨_, rfl⟩
      rw [ef] at hcf y2 kC kA kB kD kDf s1 sD z1 eF
      have yl : f.toNat < 256 := by have := f.toNat_lt; omega
      have pl : p.toNat < 256 := by have := p.toNat_lt; omega
      have ql : q.toNat < 256 := by have := q.toNat_lt; omega
      obtain ⟨h2, eh⟩ : ∃ h2, p ^^^ q ^^^ f = h2 := ⟨_, rfl⟩
      obtain ⟨h1, eh1⟩ : ∃ h1, p ^^^ q = h1 := ⟨_, rfl⟩
      rw [eh] at y2 eF
      rw [eh1] at y1 y2
      clear ep eq ef eh eh1 hc1 hc2 z1' kCf s2
      have S1 := Lib.hid s1
      have SD := Lib.hid sD
      have Z1 := Lib.hid z1
      unfold bc at kA kB kC kD kDf S1 SD Z1
      clear s1 sD z1
      have t2 : (k : Int) < (K : Int) := by omega
      go_wp2_with fail
      obtain ⟨W2, eW⟩ : ∃ W2, wr.setCell ⟨g, k, none⟩ (.int .u8 f.toNat) = W2 := ⟨_, rfl⟩
      rw [eW] at kA kB kC kD kDf S1 SD Z1
      rw [eW]
      clear eW
      go_region
      go_wp2_with fail
      obtain ⟨s3, s4⟩ := rb_stored (rowK_len _ _ _) SD.out k (dF l r x k)
      rw [rowK_set _ hlt, eF.out] at s3
      rw [eF.out] at s4
      have s5 := S1.out.only (only_grown s4) (fun q hq e => by
        have e1 : g = q := by injection hq
        have e2 : q = d := by injection e
        omega)
      have s6 := Below.setCell Z1.out (p := ⟨d, k, none⟩) (by show g ≤ d; omega) (bc h2)
      go_roundw
      case rel => exact ⟨k + 1, by go_num, by omega, Lib.hid (RB.drew s5), Lib.hid (RB.drew s3), Lib.hid (Below.drew s6)⟩
      case measure => simp [intOf]; omega
    · obtain rfl : k = K := by omega
      have t1 : decide ((k : Int) < (k : Int)) = false := decide_eq_false (by omega)
      have hWw : Below w.heap.size w wr := by rw [eg.out]; exact hW.out
      have HA := Lib.hid (ha.out.below hWw)
      have HB2 := Lib.hid (hb.out.below hWw)
      obtain ⟨Ac, cc, ec, HC, _, _, _⟩ := hC.out.holds
      obtain ⟨Ad, cd, ed, HD, _, _, _⟩ := hD.out.holds
      rw [rowK_len] at ec HC ed HD
      injection ec with ec1 ec2 ec3
      injection ed with ed1 ed2 ed3
      subst ec1; subst ed1; subst ec3; subst ed3
      have HC := Lib.hid HC
      have HD := Lib.hid HD
      have hsum := crc_rows l r x k hl1.out hl2.out
      obtain ⟨v1, e1⟩ : ∃ v, crcL (l.take k) = v := ⟨_, rfl⟩
      obtain ⟨v2, e2⟩ : ∃ v, crcL (r.take k) = v := ⟨_, rfl⟩
      obtain ⟨v3, e3⟩ : ∃ v, crcL (rowK (cF x) k k) = v := ⟨_, rfl⟩
      obtain ⟨v4, e4⟩ : ∃ v, crcL (rowK (dF l r x) k k) = v := ⟨_, rfl⟩
      have u1 : v1 < 4294967296 := by rw [← e1]; exact crcL_lt _
      have u2 : v2 < 4294967296 := by rw [← e2]; exact crcL_lt _
      have u3 : v3 < 4294967296 := by rw [← e3]; exact crcL_lt _
      rw [e1, e2, e3, e4] at hsum
      have x1 := u32_xor_nat v1 v2 u1 u2
      have x2 := u32_xor_nat (v1 ^^^ v2) v3 (xor_lt u1 u2) u3
      rw [hsum] at x2
      obtain ⟨v5, e5⟩ : ∃ v, v1 ^^^ v2 = v := ⟨_, rfl⟩
      rw [e5] at x1 x2
      have t3 : ((v4 : Int) == (v4 : Int)) = true := by simp
      have KK : ∀ W, Below wr.heap.size wr W → ∀ (A' : Option Addr) (c' v : Nat), (A' = A ∧ v = v1) ∨ (A' = B ∧ v = v2) ∨ (A' = some ⟨g, 0, none⟩ ∧ v = v3) ∨ (A' = some ⟨d, 0, none⟩ ∧ v = v4) → Calls Try.prog 22 #[.slice A' k c'] W fun e w' => e = .returned (.int .u32 v) ∧ W = w' := by
        rintro W hW2 A' c' v (⟨rfl, rfl⟩ | ⟨rfl, rfl⟩ | ⟨rfl, rfl⟩ | ⟨rfl, rfl⟩)
        · refine (Crc_any A' k c' (l.take k) W (by omega) (Lib.hid ((HA.out.take (by omega)).below hW2))).mono ?_
          rintro e w' ⟨rfl, rfl⟩
          exact ⟨by rw [e1], rfl⟩
        · refine (Crc_any A' k c' (r.take k) W (by omega) (Lib.hid ((HB2.out.take (by omega)).below hW2))).mono ?_
          rintro e w' ⟨rfl, rfl⟩
          exact ⟨by rw [e2], rfl⟩
        · refine (Crc_any _ k c' (rowK (cF x) k k) W (by omega) (Lib.hid (HC.out.below hW2))).mono ?_
          rintro e w' ⟨rfl, rfl⟩
          exact ⟨by rw [e3], rfl⟩
        · refine (Crc_any _ k c' (rowK (dF l r x) k k) W (by omega) (Lib.hid (HD.out.below hW2))).mono ?_
          rintro e w' ⟨rfl, rfl⟩
          exact ⟨by rw [e4], rfl⟩
      have KK := Lib.hid KK
      have hfin := Lib.hid hWw
      have k5 : k ≤ ca := by omega
      have k6 : k ≤ cb := by omega
      have hv12 := Lib.hid (show k = 0 → v1 = v2 from fun h0 => by rw [← e1, ← e2, h0, List.take_zero, List.take_zero])
      clear e1 e2 e3 e4 e5 hsum hWw u1 u2 u3
      go_wp2_with fail
      clear ha hb hC hD HA HB2 HC HD C2 D2 b2 b1 hl1 hl2 hi0 hz0 hz1 hz2 hW R1 bz1
      cases A with
      | none =>
        obtain ⟨q1, q2⟩ := hA rfl
        obtain rfl : k = 0 := by omega
        obtain rfl : ca = 0 := by omega
        cases B with
        | none =>
          obtain ⟨q3, q4⟩ := hB rfl
          obtain rfl : cb = 0 := by omega
          obtain rfl := hv12.out rfl
          go_region_held3 (fun w' => Below wr.heap.size wr w') (first | assumption | exact (Below.refl _ _).drew | (exact (Below.refl _ _)))
            (first
              | (go_at_call 13; refine (Known_any _).mono ?_; rintro e w'' ⟨rfl, hk⟩; have hz := below_on (by assumption) hk)
              | (go_at_call 22; refine (KK.out _ (by assumption) _ _ _ (by first | exact .inr (.inr (.inl ⟨rfl, rfl⟩)) | exact .inr (.inr (.inr ⟨rfl, rfl⟩)) | exact .inl ⟨rfl, rfl⟩ | exact .inr (.inl ⟨rfl, rfl⟩))).mono ?_; rintro e w' ⟨rfl, rfl⟩))
          all_goals go_wp2_with fail
          all_goals go_ret
          all_goals exact ⟨rfl, hfin.out.trans (Below.mono (by assumption : Below wr.heap.size wr _) hfin.out.size)⟩
        | some adB =>
          go_region_held3 (fun w' => Below wr.heap.size wr w') (first | assumption | exact (Below.refl _ _).drew | (exact (Below.refl _ _)))
            (first
              | (go_at_call 13; refine (Known_any _).mono ?_; rintro e w'' ⟨rfl, hk⟩; have hz := below_on (by assumption) hk)
              | (go_at_call 22; refine (KK.out _ (by assumption) _ _ _ (by first | exact .inr (.inr (.inl ⟨rfl, rfl⟩)) | exact .inr (.inr (.inr ⟨rfl, rfl⟩)) | exact .inl ⟨rfl, rfl⟩ | exact .inr (.inl ⟨rfl, rfl⟩))).mono ?_; rintro e w' ⟨rfl, rfl⟩))
          all_goals go_wp2_with fail
          all_goals go_ret
          all_goals exact ⟨rfl, hfin.out.trans (Below.mono (by assumption : Below wr.heap.size wr _) hfin.out.size)⟩
      | some adA =>
        cases B with
        | none =>
          obtain ⟨q3, q4⟩ := hB rfl
          obtain rfl : k = 0 := by omega
          obtain rfl : cb = 0 := by omega
          go_region_held3 (fun w' => Below wr.heap.size wr w') (first | assumption | exact (Below.refl _ _).drew | (exact (Below.refl _ _)))
            (first
              | (go_at_call 13; refine (Known_any _).mono ?_; rintro e w'' ⟨rfl, hk⟩; have hz := below_on (by assumption) hk)
              | (go_at_call 22; refine (KK.out _ (by assumption) _ _ _ (by first | exact .inr (.inr (.inl ⟨rfl, rfl⟩)) | exact .inr (.inr (.inr ⟨rfl, rfl⟩)) | exact .inl ⟨rfl, rfl⟩ | exact .inr (.inl ⟨rfl, rfl⟩))).mono ?_; rintro e w' ⟨rfl, rfl⟩))
          all_goals go_wp2_with fail
          all_goals go_ret
          all_goals exact ⟨rfl, hfin.out.trans (Below.mono (by assumption : Below wr.heap.size wr _) hfin.out.size)⟩
        | some adB =>
          go_region_held3 (fun w' => Below wr.heap.size wr w') (first | assumption | exact (Below.refl _ _).drew | (exact (Below.refl _ _)))
            (first
              | (go_at_call 13; refine (Known_any _).mono ?_; rintro e w'' ⟨rfl, hk⟩; have hz := below_on (by assumption) hk)
              | (go_at_call 22; refine (KK.out _ (by assumption) _ _ _ (by first | exact .inr (.inr (.inl ⟨rfl, rfl⟩)) | exact .inr (.inr (.inr ⟨rfl, rfl⟩)) | exact .inl ⟨rfl, rfl⟩ | exact .inr (.inl ⟨rfl, rfl⟩))).mono ?_; rintro e w' ⟨rfl, rfl⟩))
          all_goals go_wp2_with fail
          all_goals go_ret
          all_goals exact ⟨rfl, hfin.out.trans (Below.mono (by assumption : Below wr.heap.size wr _) hfin.out.size)⟩
end Go.Proofs.Ytnjedfnaohdnfaa
