/-
  The document's shares by size: By.
-/
import Derived.Test.YtabogoonbapjiaaPrBy
import Derived.Test.YtabogoonbapjiaaPrRest
import Derived.Test.YtabogoonbapjiaaPrFill
import Derived.Test.YtabogoonbapjiaaRefSum
import Derived.Test.YtabogoonbapjiaaRefShare
namespace Go.Proofs.Ytabogoonbapjiaa
open Go.RowKit
set_option linter.unusedVariables false
set_option linter.unusedSimpArgs false

set_option maxRecDepth 100000 in
set_option maxHeartbeats 1600000 in
theorem RBy_any (A : Option Addr) (n cap : Nat) (xs : List Int) (least q : Int) (w : World) (h : Hid (Holds w A n xs)) (hl : n ≤ 250) (hx : ∀ x ∈ xs, 0 ≤ x ∧ x ≤ 1000000) (hq : 0 ≤ q) (hqs : q ≤ sumL xs) (m1 : 1 ≤ least) (m2 : least ≤ 9223372036854775807) :
    Calls Try.prog 35 #[.slice A n cap, .int .i64 least, .int .i64 q] w (Gave w (plainB xs least q)) := by
  have hlen := h.out.1
  have h0 : ∀ x ∈ xs, 0 ≤ x := fun x hh => (hx x hh).1
  obtain ⟨f1, f2, f3, f4, f5, f6, f7⟩ := by_facts (least := least) hx (by omega) hq hqs
  have hbl := by_len xs least q
  have HS := RefSum_any A n cap xs w (by omega) h
  have hfit : ∀ k, k < n → 0 ≤ (byL xs least q).getD k 0 ∧ (byL xs least q).getD k 0 ≤ xs.getD k 0 ∧ xs.getD k 0 ≤ 1000000 := fun k hk => by
    have a := by_fit (least := least) h0 hq hqs (show k < xs.length by omega)
    have b := hx _ (getD_mem (show k < xs.length by omega))
    omega
  have hfit1 : Hid (∀ k, k < n → 0 ≤ (byL xs least q).getD k 0 ∧ (byL xs least q).getD k 0 ≤ 1000000 ∧ 0 ≤ xs.getD k 0 ∧ xs.getD k 0 ≤ 1000000) := Lib.hid (fun k hk => by
    have := hfit k hk; omega)
  have hsm := by_sum (least := least) h0 hq hqs
  have hrl := restB_len xs least q
  have hrn := restB_nonneg (least := least) h0 hq hqs
  have hrs : sumL (subZ xs (byL xs least q)) = sumL xs - sumL (byL xs least q) := subZ_sum hbl.symm
  have hrb : ∀ x ∈ subZ xs (byL xs least q), 0 ≤ x ∧ x ≤ 1000000 := fun y hy => by
    refine ⟨hrn y hy, ?_⟩
    obtain ⟨k, hk, rfl⟩ := subZ_mem hbl.symm hy
    have := hfit k (by omega); omega
  have hfm := fill_mem (subZ xs (byL xs least q)) (q - sumL (byL xs least q)) hrb (by omega)
  have hfl := fill_len (subZ xs (byL xs least q)) (q - sumL (byL xs least q))
  have hfit2 : Hid (∀ k, k < n → 0 ≤ (fillL (subZ xs (byL xs least q)) (q - sumL (byL xs least q))).getD k 0 ∧ (fillL (subZ xs (byL xs least q)) (q - sumL (byL xs least q))).getD k 0 ≤ 1000000 ∧ 0 ≤ (byL xs least q).getD k 0 ∧ (byL xs least q).getD k 0 ≤ 1000000) := Lib.hid (fun k hk => by
    have a := hfit k hk
    have b := hfm _ (getD_mem (show k < _ by rw [hfl, hrl]; omega))
    omega)
  have hfin : plainB xs least q = addZ (byL xs least q) (fillL (subZ xs (byL xs least q)) (q - sumL (byL xs least q))) := by with_unfolding_all rfl
  rw [hfin]
  rw [hlen] at hbl f1 f2 f3 hrl
  obtain ⟨M, hM⟩ : ∃ M, sumL xs = M := ⟨_, rfl⟩
  rw [hM] at f1 f2 f3 f5 f6 HS hqs hrs
  have iB : ∀ x ∈ byL xs least q, I64 x := fun y hy => by
    obtain ⟨k, hk, rfl⟩ := mem_getD hy
    have := hfit k (by omega)
    exact ⟨by omega, by omega⟩
  obtain ⟨B, hB⟩ : ∃ B, byL xs least q = B := ⟨_, rfl⟩
  simp only [hB] at f2 f3 f4 hbl hfit hfit1 hsm hrl hrs hrb hfm hfl hfit2 iB ⊢
  rw [pick_yes (fitB_yes (x := M) (by omega) (by omega)), fitB_yes (x := M) (by omega) (by omega)] at HS
  obtain ⟨r, hr⟩ : ∃ r, q - sumL B = r := ⟨_, rfl⟩
  have r0 : 0 ≤ r := by omega
  have hrr : r ≤ sumL (subZ xs B) := by omega
  simp only [hr] at hfm hfl hfit2 ⊢
  have hrend : q - sumL (B.take n) = r := by rw [List.take_of_length_le (by omega)]; exact hr
  replace HS := Lib.hid HS
  replace f1 := Lib.hid f1
  replace f2 := Lib.hid f2
  replace f3 := Lib.hid f3
  replace f4 := Lib.hid f4
  replace hx := Lib.hid hx
  replace hM := Lib.hid hM
  replace hB := Lib.hid hB
  replace hfit := Lib.hid hfit
  replace iB := Lib.hid iB
  replace hrb := Lib.hid hrb
  replace hfm := Lib.hid hfm
  replace hr := Lib.hid hr
  replace hrend := Lib.hid hrend
  replace hrr := Lib.hid hrr
  replace hrs := Lib.hid hrs
  clear h0 hfin hsm hrn hqs
  obtain ⟨i0, hi0, hz0, hz1, hz2⟩ := info_parts info_num
  have R0 := Lib.hid (row_nil w w.heap.size)
  have B0 := Lib.hid (Below.refl w.heap.size w)
  obtain ⟨g, hg⟩ : ∃ g, w.heap.size = g := ⟨_, rfl⟩
  rw [hg] at R0 B0
  replace hg := Lib.hid hg
  go_enter Try.func35, Try.ntmps35
  go_wp2_with fail
  refine HS.out.mono ?_
  rintro e w1 ⟨rfl, rfl⟩
  go_wp2_with fail
  go_loopw [9, 10, 11] (fun u s i wr => ∃ (k : Nat) (m : Int), s = .int .i64 m ∧ i = .int .i64 k ∧ k ≤ n ∧ Hid (m = q - sumL (B.take k)) ∧ Hid (Row wr g u (B.take k)) ∧ Hid (Below g w wr)) (fun _ _ i _ => n - (intOf i).toNat)
  case atStart => exact ⟨0, q, rfl, rfl, by omega, Lib.hid (by simp [sumL]), Lib.hid (by rw [List.take_zero]; exact R0.out), B0⟩
  case round =>
    obtain ⟨k, m, rfl, rfl, hk, hm, hR, hBl⟩ := hrel
    obtain ⟨mm1, mm2⟩ := f4.out k
    rw [← hm.out] at mm1 mm2
    by_cases hlt : k < n
    · have HW := h.out.below (hg.out ▸ hBl.out)
      obtain ⟨b, off, rfl, hc⟩ := HW.2.2 (by omega)
      have hcell := hc k hlt
      have hxk := hx.out _ (getD_mem (show k < xs.length by omega))
      obtain ⟨s1, s2⟩ := f1.out k hlt
      have by1 := f2.out k hlt
      have by0 := f3.out k hlt
      have hst := sumL_take B k (by omega)
      have mk := take_snoc (r := B) (k := k) (by omega)
      have bd1 := f4.out (k + 1)
      have hw : g ≤ wr.heap.size := by rw [← hg.out]; exact hBl.out.size
      have fk : (B.take k).length ≤ 250 := by rw [List.length_take]; omega
      clear hc HW
      generalize xs.getD k 0 = x at *
      have d1 : decide ((k : Int) < (n : Int)) = true := decide_eq_true (by omega)
      have d1' : (k : Int) < (n : Int) := by omega
      by_cases hM0 : 0 < M
      · have dM : decide (0 < M) = true := decide_eq_true hM0
        have HSh := RefShare_any x q M wr (by omega) (by omega) (by omega) (by omega) (by omega) (by omega)
        obtain ⟨s, hs⟩ : ∃ s, x * q / M = s := ⟨_, rfl⟩
        rw [hs] at HSh s1 s2 by1 by0
        rw [pick_yes (fitB_yes (x := s) (by omega) (by omega)), fitB_yes (x := s) (by omega) (by omega)] at HSh
        replace HSh := Lib.hid HSh
        replace hs := Lib.hid hs
        by_cases hle : s < least
        · have d2 : decide (s < least) = true := decide_eq_true hle
          have b0 := by0 (by omega)
          rw [b0] at hst mk
          have hnew : Hid (m = q - sumL (B.take (k + 1))) := Lib.hid (by rw [hst, hm.out]; omega)
          replace mk := Lib.hid mk
          clear by1 by0 b0 hst bd1
          have h1 := one_lit wr 0 2 (by omega) (by omega)
          have hb1 : g ≤ (wr.alloc (.cells #[.int .i64 0] 2)).heap.size := by simp; omega
          have ba := Lib.hid (hBl.out.alloc hw (.cells #[.int .i64 0] 2))
          replace h1 := Lib.hid h1
          go_wp2_with fail
          refine HSh.out.mono ?_
          rintro e wx ⟨rfl, rfl⟩
          go_wp2_with (at_builtin; refine wpList_onto (by rfl) (.tmp 40) (.tmp 42) 26 (by rfl) g i0 Try.underlying26 hi0 hz0 hz1 hz2 _ _ (by rfl) (hR.out.alloc _) _ 1 1 [0] (by rfl) h1.out (fun e => by cases e) (by omega) hb1 ?_)
          intro v3 w3 r3 g3 o3
          rw [← mk.out] at r3
          have B3 := Lib.hid (ba.out.grown g3 hb1 (fun q hq => (Row.lt hR.out hq).1))
          replace r3 := Lib.hid r3
          clear g3 o3
          go_wp2_with fail
          go_roundw
          case rel => exact ⟨k + 1, m, by go_num, by go_num, by omega, hnew, r3, B3⟩
          case measure => simp [intOf]; omega
        · have d2 : decide (s < least) = false := decide_eq_false hle
          rw [by1 (by omega)] at hst mk
          rw [hst] at bd1
          have hnew : m - s = q - (sumL (B.take k) + s) := by rw [hm.out]; omega
          rw [← hst] at hnew
          rw [← hst, ← hnew] at bd1
          obtain ⟨bd2, bd3⟩ := bd1
          have w1' : wrap64 (m - s) = m - s := IntWalk.wrap64_in _ ⟨by omega, by omega⟩
          replace hnew := Lib.hid hnew
          replace mk := Lib.hid mk
          clear by1 by0 hst
          have h1 := one_lit wr s 2 (by omega) (by omega)
          have hb1 : g ≤ (wr.alloc (.cells #[.int .i64 s] 2)).heap.size := by simp; omega
          have ba := Lib.hid (hBl.out.alloc hw (.cells #[.int .i64 s] 2))
          replace h1 := Lib.hid h1
          go_wp2_with fail
          refine HSh.out.mono ?_
          rintro e wx ⟨rfl, rfl⟩
          go_wp2_with (at_builtin; refine wpList_onto (by rfl) (.tmp 40) (.tmp 42) 26 (by rfl) g i0 Try.underlying26 hi0 hz0 hz1 hz2 _ _ (by rfl) (hR.out.alloc _) _ 1 1 [s] (by rfl) h1.out (fun e => by cases e) (by omega) hb1 ?_)
          intro v3 w3 r3 g3 o3
          rw [← mk.out] at r3
          have B3 := Lib.hid (ba.out.grown g3 hb1 (fun q hq => (Row.lt hR.out hq).1))
          replace r3 := Lib.hid r3
          clear g3 o3
          go_wp2_with fail
          go_roundw
          case rel => exact ⟨k + 1, m - s, by go_num, by go_num, by omega, hnew, r3, B3⟩
          case measure => simp [intOf]; omega
      · obtain rfl : M = 0 := by omega
        rw [Int.ediv_zero] at by0 by1
        have b0 := by0 (by omega)
        rw [b0] at hst mk
        have hnew : Hid (m = q - sumL (B.take (k + 1))) := Lib.hid (by rw [hst, hm.out]; omega)
        have d2 : decide (0 < least) = true := decide_eq_true (by omega)
        replace mk := Lib.hid mk
        clear by1 by0 b0 hst bd1 s1 s2
        have h1 := one_lit wr 0 2 (by omega) (by omega)
        have hb1 : g ≤ (wr.alloc (.cells #[.int .i64 0] 2)).heap.size := by simp; omega
        have ba := Lib.hid (hBl.out.alloc hw (.cells #[.int .i64 0] 2))
        replace h1 := Lib.hid h1
        skip
        go_wp2_with (at_builtin; refine wpList_onto (by rfl) (.tmp 40) (.tmp 42) 26 (by rfl) g i0 Try.underlying26 hi0 hz0 hz1 hz2 _ _ (by rfl) (hR.out.alloc _) _ 1 1 [0] (by rfl) h1.out (fun e => by cases e) (by omega) hb1 ?_)
        intro v3 w3 r3 g3 o3
        rw [← mk.out] at r3
        have B3 := Lib.hid (ba.out.grown g3 hb1 (fun q hq => (Row.lt hR.out hq).1))
        replace r3 := Lib.hid r3
        clear g3 o3
        go_wp2_with fail
        go_roundw
        case rel => exact ⟨k + 1, m, by go_num, by go_num, by omega, hnew, r3, B3⟩
        case measure => simp [intOf]; omega
    · obtain rfl : k = n := by omega
      have d1 : decide ((k : Int) < (k : Int)) = false := by simp
      have et : B.take k = B := List.take_of_length_le (by omega)
      rw [et] at hR
      replace et := Lib.hid et
      rw [hrend.out] at hm
      obtain rfl := hm.out
      obtain ⟨S, cs, rfl, h2, z2, l2, c2, at2⟩ := hR.out.slice iB.out
      rw [hbl] at h2 l2 ⊢
      have hA2 := Lib.hid (h.out.below (show Below w.heap.size w wr by rw [hg.out]; exact hBl.out))
      replace h2 := Lib.hid h2
      have HR := Lib.hid (RRest_any A k cap xs S cs B wr (by omega) hA2 h2 hfit1)
      go_wp2_with fail
      refine HR.out.mono ?_
      rintro e w3 ⟨v, rfl, r3, b3⟩
      have iR : ∀ x ∈ subZ xs B, I64 x := fun x hx => by have := hrb.out x hx; exact ⟨by omega, by omega⟩
      obtain ⟨A3, c3, rfl, h3, -, l3, m3, at3⟩ := r3.slice iR
      rw [hrl] at h3 l3 ⊢
      have h23 := Lib.hid (h2.out.below b3)
      have B3 := Lib.hid (hBl.out.trans (b3.mono (by have q := hBl.out.size; rw [hg.out] at q; exact q)))
      replace h3 := Lib.hid h3
      have HF := Lib.hid (RFill_zero A3 k c3 (subZ xs B) m w3 h3 (by omega) hrb.out (by omega) hrr.out)
      clear HR r3 b3
      go_wp2_with fail
      refine HF.out.mono ?_
      rintro e w4 ⟨v, rfl, r4, b4⟩
      have iF : ∀ x ∈ fillL (subZ xs B) m, I64 x := fun x hx => by have := hfm.out x hx; exact ⟨by omega, by omega⟩
      obtain ⟨A4, c4, rfl, h4, -, l4, m4, at4⟩ := r4.slice iF
      rw [hfl, hrl] at h4 l4 ⊢
      have h24 := Lib.hid (h23.out.below b4)
      have B4 := Lib.hid (B3.out.trans (b4.mono (by have q := B3.out.size; rw [hg.out] at q; exact q)))
      replace h4 := Lib.hid h4
      have HB := Lib.hid (RBoth_any S k cs B A4 c4 (fillL (subZ xs B) m) w4 (by omega) h24 h4 hfit2)
      clear HF r4 b4
      go_wp2_with fail
      refine HB.out.mono ?_
      rintro e w5 ⟨v, rfl, r5, b5⟩
      have B5 := Lib.hid (B4.out.trans (b5.mono (by have q := B4.out.size; rw [hg.out] at q; exact q)))
      have r6 := Lib.hid (r5.base (base' := g) (by have q := B4.out.size; rw [hg.out] at q; exact q))
      clear HB r5 b5
      go_wp2_with fail
      go_ret
      exact ⟨_, rfl, by rw [hg.out]; exact r6.out, by rw [hg.out]; exact B5.out⟩
end Go.Proofs.Ytabogoonbapjiaa
