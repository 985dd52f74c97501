/-
  Of the document's shares by arrival: Fill, where some want nothing.
-/
import Derived.Test.YtabogoonbapjiaaFiShare
namespace Go.Proofs.Ytabogoonbapjiaa
open Go.RowKit
set_option linter.unusedVariables false
set_option linter.unusedSimpArgs false

set_option maxRecDepth 100000 in
set_option maxHeartbeats 1600000 in
theorem RFill_zero (A : Option Addr) (n cap : Nat) (xs : List Int) (q : Int) (w : World) (h : Hid (Holds w A n xs)) (hl : xs.length ≤ 250) (hx : ∀ x ∈ xs, 0 ≤ x ∧ x ≤ 1000000) (hq : 0 ≤ q) (hqs : q ≤ sumL xs) :
    Calls Try.prog 33 #[.slice A n cap, .int .i64 q] w (Gave w (fillL xs q)) := by
  have hlen := h.out.1
  have hbig := (sumL_bound xs 1000000 (fun x hh => by have := hx x hh; omega)).2
  have hfl := fill_len xs q
  have hrest : ∀ k, 0 ≤ q - sumL ((fillL xs q).take k) := fun k => by rw [fill_sums xs q k (fun x hh => by have := hx x hh; omega) hq]; omega
  replace hrest := Lib.hid hrest
  obtain ⟨F, hF⟩ : ∃ F, fillL xs q = F := ⟨_, rfl⟩
  have hget : ∀ k, k < n → F.getD k 0 = min (xs.getD k 0) (q - sumL (F.take k)) := fun k hk => by rw [← hF]; exact fill_get xs q k (by omega)
  replace hget := Lib.hid hget
  rw [hF] at hfl hrest ⊢
  have hq3 : q ≤ 250000000 := by omega
  replace hF := Lib.hid hF
  replace hx := Lib.hid hx
  clear hbig hqs
  obtain ⟨i0, hi0, hz0, hz1, hz2⟩ := info_parts info_num
  have R0 := Lib.hid (row_nil w w.heap.size)
  have B0 := Lib.hid (Below.refl w.heap.size w)
  obtain ⟨g, hg⟩ : ∃ g, w.heap.size = g := ⟨_, rfl⟩
  rw [hg] at R0 B0
  replace hg := Lib.hid hg
  go_enter Try.func33, Try.ntmps33
  go_wp2_with fail
  go_loopw [1, 5, 6] (fun s u i wr => ∃ (k : Nat) (m : Int), s = .int .i64 m ∧ i = .int .i64 k ∧ k ≤ n ∧ Hid (m = q - sumL (F.take k)) ∧ 0 ≤ m ∧ m ≤ 250000000 ∧ Hid (Row wr g u (F.take k)) ∧ Hid (Below g w wr)) (fun _ _ i _ => n - (intOf i).toNat)
  case atStart => exact ⟨0, q, rfl, rfl, by omega, Lib.hid (by simp [sumL]), hq, hq3, by simpa using R0, B0⟩
  case round =>
    obtain ⟨k, m, rfl, rfl, hk, hm, m1, m2, hR, hB⟩ := hrel
    by_cases hlt : k < n
    · have hg0 := hget.out k hlt
      rw [← hm.out] at hg0
      have hst := sumL_take F k (by omega)
      have hr1 := hrest.out (k + 1)
      have hnx : F.take (k + 1) = F.take k ++ [F.getD k 0] := by rw [List.take_add_one]; simp [List.getD, List.getElem?_eq_getElem (show k < F.length by omega)]
      have HW := h.out.below (hg.out ▸ hB.out)
      obtain ⟨b, off, rfl, hc⟩ := HW.2.2 (by omega)
      have hcell := hc k hlt
      have hxk := hx.out _ (getD_mem (show k < xs.length by omega))
      have hw : g ≤ wr.heap.size := by rw [← hg.out]; exact hB.out.size
      clear hc
      generalize xs.getD k 0 = x at *
      obtain ⟨y, hy⟩ : ∃ y, min x m = y := ⟨_, rfl⟩
      rw [hy] at hg0
      rw [hg0] at hnx hst
      rw [hst] at hr1
      replace hst := Lib.hid hst
      replace hnx := Lib.hid hnx
      replace hg0 := Lib.hid hg0
      have y0 : 0 ≤ y := by omega
      have hyb : y ≤ m := by omega
      have hsum : m - y = q - (sumL (F.take k) + y) := by rw [hm.out]; omega
      replace hsum := Lib.hid hsum
      have d1 : decide ((k : Int) < (n : Int)) = true := decide_eq_true (by omega)
      have d1' : (k : Int) < (n : Int) := by omega
      have htl : (F.take k).length ≤ 250 := by rw [List.length_take]; omega
      have w1' : wrap64 (m - y) = m - y := IntWalk.wrap64_in _ ⟨by omega, by omega⟩
      have h1 := one_lit wr y 2 (by omega) (by omega)
      have hb1 : g ≤ (wr.alloc (.cells #[.int .i64 y] 2)).heap.size := by simp; omega
      have ba := Lib.hid (hB.out.alloc hw (.cells #[.int .i64 y] 2))
      replace h1 := Lib.hid h1
      by_cases hmx : m < x
      · obtain rfl : y = m := by omega
        have d2 : decide (y < x) = true := decide_eq_true hmx
        clear hy
        go_wp2_with (at_builtin; refine wpList_onto (by rfl) (.tmp 22) (.tmp 24) 26 (by rfl) g i0 Try.underlying26 hi0 hz0 hz1 hz2 _ _ (by rfl) (hR.out.alloc _) _ 1 1 [y] (by rfl) h1.out (fun e => by cases e) (by omega) hb1 ?_)
        intro v3 w3 r3 g3 o3
        rw [← hnx.out] at r3
        have B3 := Lib.hid (ba.out.grown g3 hb1 (fun q hq => (Row.lt hR.out hq).1))
        replace r3 := Lib.hid r3
        clear g3 o3
        go_wp2_with fail
        go_roundw
        case rel => exact ⟨k + 1, y - y, by go_num, by go_num, by omega, Lib.hid (by rw [hst.out, ← hsum.out]), by omega, by omega, r3, B3⟩
        case measure => simp [intOf]; omega
      · obtain rfl : y = x := by omega
        have d2 : decide (m < y) = false := decide_eq_false hmx
        clear hy
        go_wp2_with (at_builtin; refine wpList_onto (by rfl) (.tmp 22) (.tmp 24) 26 (by rfl) g i0 Try.underlying26 hi0 hz0 hz1 hz2 _ _ (by rfl) (hR.out.alloc _) _ 1 1 [y] (by rfl) h1.out (fun e => by cases e) (by omega) hb1 ?_)
        intro v3 w3 r3 g3 o3
        rw [← hnx.out] at r3
        have B3 := Lib.hid (ba.out.grown g3 hb1 (fun q hq => (Row.lt hR.out hq).1))
        replace r3 := Lib.hid r3
        clear g3 o3
        go_wp2_with fail
        go_roundw
        case rel => exact ⟨k + 1, m - y, by go_num, by go_num, by omega, Lib.hid (by rw [hst.out, ← hsum.out]), by omega, by omega, r3, B3⟩
        case measure => simp [intOf]; omega
    · obtain rfl : k = n := by omega
      have d1 : decide ((k : Int) < (k : Int)) = false := by simp
      have et : F.take k = F := List.take_of_length_le (by omega)
      rw [et] at hR
      replace et := Lib.hid et
      go_wp2_with fail
      go_ret
      exact ⟨_, rfl, by rw [hg.out]; exact hR.out, by rw [hg.out]; exact hB.out⟩
end Go.Proofs.Ytabogoonbapjiaa
