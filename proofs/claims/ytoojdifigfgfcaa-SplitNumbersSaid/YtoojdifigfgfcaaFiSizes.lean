/-
  Within, of the book; the law's sizes: right ones, of the first forty numbers.
-/
import Derived.Test.YtoojdifigfgfcaaFiShare
namespace Go.Proofs.Ytoojdifigfgfcaa
open Go.RowKit
set_option linter.unusedVariables false
set_option linter.unusedSimpArgs false

/-- A number brought into 0 .. m. -/
def withinN (n : Int) (m : Nat) : Nat := (n % ((m : Int) + 1)).toNat
theorem withinN_le (n : Int) (m : Nat) : withinN n m ≤ m := by
  have := Int.emod_lt_of_pos n (show (0 : Int) < (m : Int) + 1 by omega)
  unfold withinN; omega
theorem withinN_pos {n : Int} {m : Nat} (h : 0 ≤ n) : ((withinN n m : Nat) : Int) = n % ((m : Int) + 1) := by
  have := Int.emod_nonneg n (show (m : Int) + 1 ≠ 0 by omega)
  unfold withinN; omega

set_option maxRecDepth 100000 in
theorem Within_pos (n : Int) (m : Nat) (w : World) (hm : m ≤ 140737488355328) (h0 : 0 ≤ n) (h1 : n ≤ 9223372036854775807) :
    Calls Try.prog 12 #[.int .i64 n, .int .i64 0, .int .i64 m] w fun e w' => e = .returned (.int .i64 (withinN n m)) ∧ w' = w := by
  have hj := withinN_pos (m := m) h0
  have hb := withinN_le n m
  obtain ⟨j, ej⟩ : ∃ j, withinN n m = j := ⟨_, rfl⟩
  rw [ej] at hj hb ⊢
  have hj2 := hj.symm
  clear ej hj
  go_enter Try.func12, Try.ntmps12
  go_wp2
  go_ret
  exact ⟨rfl, rfl⟩
theorem wmod_neg {n : Int} {m : Nat} (h : n < 0) : ∃ a : Nat, n.tmod ((m : Int) + 1) = -(a : Int) ∧ ((a = 0 ∧ withinN n m = 0) ∨ (0 < a ∧ a ≤ m ∧ ((withinN n m : Nat) : Int) = -(a : Int) + (m : Int) + 1)) := by
  have e1 : n.tmod ((m : Int) + 1) = -((-n) % ((m : Int) + 1)) := by
    rw [← Int.tmod_eq_emod_of_nonneg (by omega : 0 ≤ -n), Int.neg_tmod]; omega
  have e2 := Int.emod_nonneg (-n) (show (m : Int) + 1 ≠ 0 by omega)
  have e3 := Int.emod_lt_of_pos (-n) (show (0 : Int) < (m : Int) + 1 by omega)
  have f2 := Int.emod_nonneg n (show (m : Int) + 1 ≠ 0 by omega)
  have f3 := Int.emod_lt_of_pos n (show (0 : Int) < (m : Int) + 1 by omega)
  have d1 := Int.emod_add_mul_ediv (-n) ((m : Int) + 1)
  have d2 := Int.emod_add_mul_ediv n ((m : Int) + 1)
  refine ⟨((-n) % ((m : Int) + 1)).toNat, by rw [e1]; omega, ?_⟩
  have hs : (n % ((m : Int) + 1) + (-n) % ((m : Int) + 1)) = 0 ∨ (n % ((m : Int) + 1) + (-n) % ((m : Int) + 1)) = (m : Int) + 1 := by
    generalize hx : n % ((m : Int) + 1) = x at *
    generalize hy : (-n) % ((m : Int) + 1) = y at *
    generalize hp : n / ((m : Int) + 1) = p at *
    generalize hq : (-n) / ((m : Int) + 1) = q at *
    have hsum : x + y = -(((m : Int) + 1) * (p + q)) := by rw [Int.mul_add]; omega
    have h1 : x + y < 2 * ((m : Int) + 1) := by omega
    rcases Int.lt_trichotomy (p + q) 0 with h4 | h4 | h4
    · rcases (show p + q < -1 ∨ -1 ≤ p + q by omega) with h5 | h5
      · exfalso
        have := Int.mul_le_mul_of_nonneg_left (show p + q ≤ -2 by omega) (show (0 : Int) ≤ (m : Int) + 1 by omega)
        omega
      · have : p + q = -1 := by omega
        rw [this] at hsum
        right; omega
    · rw [h4] at hsum; left; omega
    · exfalso
      have := Int.mul_le_mul_of_nonneg_left (show 1 ≤ p + q by omega) (show (0 : Int) ≤ (m : Int) + 1 by omega)
      omega
  unfold withinN
  omega
set_option maxRecDepth 100000 in
theorem Within_neg (n : Int) (m : Nat) (w : World) (hm : m ≤ 140737488355328) (h0 : n < 0) (h1 : -9223372036854775808 ≤ n) :
    Calls Try.prog 12 #[.int .i64 n, .int .i64 0, .int .i64 m] w fun e w' => e = .returned (.int .i64 (withinN n m)) ∧ w' = w := by
  have hb := withinN_le n m
  obtain ⟨a, ea, hc⟩ := wmod_neg (m := m) h0
  obtain ⟨j, ej⟩ : ∃ j, withinN n m = j := ⟨_, rfl⟩
  rw [ej] at hc hb ⊢
  clear ej
  rcases hc with ⟨rfl, rfl⟩ | ⟨ha, ham, hj⟩
  · go_enter Try.func12, Try.ntmps12
    go_wp2
    go_ret
    exact ⟨rfl, rfl⟩
  · have Hj := Lib.hid hj
    have hd : decide (-(a : Int) < 0) = true := decide_eq_true (by omega)
    clear hj hb
    go_enter Try.func12, Try.ntmps12
    go_wp2
    go_ret
    exact ⟨by rw [Hj.out]; rfl, rfl⟩
theorem Within_any (n : Int) (m : Nat) (w : World) (hm : m ≤ 140737488355328) (h1 : -9223372036854775808 ≤ n) (h2 : n ≤ 9223372036854775807) :
    Calls Try.prog 12 #[.int .i64 n, .int .i64 0, .int .i64 m] w fun e w' => e = .returned (.int .i64 (withinN n m)) ∧ w' = w := by
  by_cases h : 0 ≤ n
  · exact Within_pos n m w hm h h2
  · exact Within_neg n m w hm (by omega) h1

/-- What the law makes of its numbers: forty at most, each right. -/
def sizeL (l : List Int) : List Int := (l.take 40).map (fun x => 1 + (withinN x 999999 : Int))
theorem size_len (l : List Int) : (sizeL l).length = min 40 l.length := by simp [sizeL]
theorem size_ok (l : List Int) : ∀ y ∈ sizeL l, 1 ≤ y ∧ y ≤ 1000000 := by
  intro y hy
  obtain ⟨x, _, rfl⟩ := List.mem_map.1 hy
  have := withinN_le x 999999
  omega
theorem size_next {l : List Int} {k : Nat} (hk : k < l.length) (h40 : k < 40) : (sizeL l).take (k + 1) = (sizeL l).take k ++ [1 + (withinN (l.getD k 0) 999999 : Int)] := by
  have h2 : k < (sizeL l).length := by rw [size_len]; omega
  rw [List.take_add_one, List.getElem?_eq_getElem h2, Option.toList_some]
  congr 2
  simp [sizeL, List.getD, List.getElem?_eq_getElem hk]
attribute [irreducible] sizeL

set_option maxRecDepth 100000 in
set_option maxHeartbeats 1600000 in
theorem Sizes_any (A : Option Addr) (n cap : Nat) (xs : List Int) (w : World) (hn : n ≤ 9223372036854775807) (h : Hid (Holds w A n xs)) :
    Calls Try.prog 11 #[.slice A n cap] w (Gave w (sizeL xs)) := by
  have hlen := h.out.1
  have hsl := size_len xs
  obtain ⟨F, hF⟩ : ∃ F, sizeL xs = F := ⟨_, rfl⟩
  have hnx0 : ∀ k, k < n → k < 40 → F.take (k + 1) = F.take k ++ [1 + (withinN (xs.getD k 0) 999999 : Int)] := fun k h1 h2 => by rw [← hF]; exact size_next (by omega) h2
  replace hnx0 := Lib.hid hnx0
  rw [hF] at hsl ⊢
  replace hF := Lib.hid hF
  obtain ⟨i0, hi0, hz0, hz1, hz2⟩ := info_parts info_num
  have R0 := Lib.hid (row_nil w w.heap.size)
  have B0 := Lib.hid (Below.refl w.heap.size w)
  obtain ⟨g, hg⟩ : ∃ g, w.heap.size = g := ⟨_, rfl⟩
  rw [hg] at R0 B0
  replace hg := Lib.hid hg
  go_enter Try.func11, Try.ntmps11
  go_wp2_with fail
  go_loopw [3, 4] (fun u i wr => ∃ (k : Nat), i = .int .i64 k ∧ k ≤ n ∧ k ≤ 40 ∧ Hid (Row wr g u (F.take k)) ∧ Hid (Below g w wr)) (fun _ i _ => n - (intOf i).toNat)
  case atStart => exact ⟨0, rfl, by omega, by omega, by simpa using R0, B0⟩
  case round =>
    obtain ⟨k, rfl, hk, hk2, hR, hB⟩ := hrel
    by_cases hlt : k < n
    · have d1 : decide ((k : Int) < (n : Int)) = true := decide_eq_true (by omega)
      have d1' : (k : Int) < (n : Int) := by omega
      by_cases h40 : k < 40
      · have hnx := hnx0.out k hlt h40
        have HW := h.out.below (hg.out ▸ hB.out)
        obtain ⟨b, off, rfl, hc⟩ := HW.2.2 (by omega)
        have hcell := hc k hlt
        have hw : g ≤ wr.heap.size := by rw [← hg.out]; exact hB.out.size
        obtain ⟨x1, x2⟩ := h.out.i64 hlt
        clear hc
        generalize xs.getD k 0 = x at *
        have hwi := Within_any x 999999 wr (by omega) x1 x2
        have hwl := withinN_le x 999999
        obtain ⟨y, hy⟩ : ∃ y, withinN x 999999 = y := ⟨_, rfl⟩
        rw [hy] at hwi hwl hnx
        replace hwi := Lib.hid hwi
        replace hnx := Lib.hid hnx
        replace hy := Lib.hid hy
        have htl : (F.take k).length ≤ 250 := by rw [List.length_take]; omega
        have d2 : decide ((k : Int) < 40) = true := decide_eq_true (by omega)
        have h1 := one_lit wr (1 + (y : Int)) 2 (by omega) (by omega)
        have hb1 : g ≤ (wr.alloc (.cells #[.int .i64 (1 + (y : Int))] 2)).heap.size := by simp; omega
        have ba := Lib.hid (hB.out.alloc hw (.cells #[.int .i64 (1 + (y : Int))] 2))
        replace h1 := Lib.hid h1
        go_wp2_with fail
        refine hwi.out.mono ?_
        rintro e w1 ⟨rfl, rfl⟩
        go_wp2_with (at_builtin; refine wpList_onto (by rfl) (.tmp 15) (.tmp 22) 22 (by rfl) g i0 Try.underlying22 hi0 hz0 hz1 hz2 _ _ (by rfl) (hR.out.alloc _) _ 1 1 [1 + (y : Int)] (by rfl) h1.out (fun e => by cases e) (by omega) hb1 ?_)
        intro v3 w3 r3 g3 o3
        rw [← hnx.out] at r3
        have B3 := Lib.hid (ba.out.grown g3 hb1 (fun q hq => (Row.lt hR.out hq).1))
        replace r3 := Lib.hid r3
        clear g3 o3
        go_wp2_with fail
        go_roundw
        case rel => exact ⟨k + 1, by go_num, by omega, by omega, r3, B3⟩
        case measure => simp [intOf]; omega
      · obtain rfl : k = 40 := by omega
        have et : F.take 40 = F := List.take_of_length_le (by omega)
        rw [et] at hR
        replace et := Lib.hid et
        go_wp2_with fail
        go_ret
        exact ⟨_, rfl, by rw [hg.out]; exact hR.out, by rw [hg.out]; exact hB.out⟩
    · obtain rfl : k = n := by omega
      have d1 : decide ((k : Int) < (k : Int)) = false := by simp
      have et : F.take k = F := List.take_of_length_le (by omega)
      rw [et] at hR
      replace et := Lib.hid et
      go_wp2_with fail
      go_ret
      exact ⟨_, rfl, by rw [hg.out]; exact hR.out, by rw [hg.out]; exact hB.out⟩
end Go.Proofs.Ytoojdifigfgfcaa
