/-
  Contract: Long, of the document's own answer: eight bytes behind some bytes.
-/
import Derived.Test.YtjhfgajhmenboaaDoorRefParts
namespace Go.Proofs.YtjhfgajhmenboaaDoor
open Go.RowKit
set_option linter.unusedVariables false
set_option linter.unusedSimpArgs false

theorem byte_nat' (k : Nat) : (UInt8.ofNat (k % 256)).toNat = k % 256 := by simp
/-- The number's 64 bits, and its bytes, the lowest first. -/
def bits64 (n : Int) : Nat := (n % 18446744073709551616).toNat
def longTo (u : Nat) (k : Nat) : List UInt8 := (List.range k).map (fun j => UInt8.ofNat (u / 2 ^ (8 * j) % 256))
def longL (n : Int) : List UInt8 := longTo (bits64 n) 8
theorem longTo_next (u k : Nat) : longTo u (k + 1) = longTo u k ++ [UInt8.ofNat (u / 2 ^ (8 * k) % 256)] := by
  unfold longTo; rw [List.range_succ, List.map_append]; rfl
theorem longTo_len (u k : Nat) : (longTo u k).length = k := by unfold longTo; simp
theorem longL_len (n : Int) : (longL n).length = 8 := longTo_len _ 8

theorem bits64_wrap (n : Int) : IntKind.u64.wrap n = ((bits64 n : Nat) : Int) := by
  have h1 := Int.emod_nonneg n (show (18446744073709551616 : Int) ≠ 0 by omega)
  rw [IntKind.wrap_u64]
  unfold bits64; omega
theorem long_byte (n : Int) (k : Nat) : IntKind.u64.wrap n / 2 ^ (8 * k) % 256 = (((UInt8.ofNat (bits64 n / 2 ^ (8 * k) % 256)).toNat : Nat) : Int) := by
  rw [bits64_wrap, byte_nat', Int.natCast_emod, Int.natCast_ediv, Int.natCast_pow]
  rfl
set_option maxRecDepth 100000 in
set_option maxHeartbeats 1000000 in
theorem RefLong_any (A : Option Addr) (n cap : Nat) (l : List UInt8) (v : Int) (w : World) (hn : n ≤ 900000000) (hA : A = none → cap = 0) (h : Hid (HB w A n l)) (v1 : -9223372036854775808 ≤ v) (v2 : v ≤ 9223372036854775807) :
    Calls Tryd.prog 28 #[.slice A n cap, .int .i64 v] w fun e w' => ∃ r, e = .returned r ∧ RB w' w.heap.size r (l ++ longL v) ∧ Below w.heap.size w w' := by
  obtain ⟨i0, hi0, hz0, hz1, hz2⟩ := info_parts info_u8
  have hl := Lib.hid h.out.1
  have R0 := Lib.hid (rb_empty w)
  have HA := Lib.hid (h.out.alloc (.cells #[] 5))
  go_enter Tryd.func28, Tryd.ntmps28
  go_wp2_with (at_builtin; refine wpList_onto_b (by rfl) (.tmp 7) (.tmp 8) 26 (by rfl) w.heap.size i0 Tryd.underlying26 hi0 hz0 hz1 hz2 _ _ (by rfl) R0.out A n cap l (by rfl) HA.out hA ?c1 ?c2 ?_)
  case c1 => simp; omega
  case c2 => simp
  intro r1 w1 h1 g1 _
  have b1 := Lib.hid (RB.below ((Below.refl _ w).alloc (Nat.le_refl _) _) R0.out g1)
  have h1 := Lib.hid h1
  clear g1
  go_wp2_with fail
  go_loopw [5, 6] (fun r i wr => ∃ k : Nat, i = .int .u64 ((8 * k : Nat) : Int) ∧ k ≤ 8 ∧ Hid (RB wr w.heap.size r (l ++ longTo (bits64 v) k)) ∧ Hid (Below w.heap.size w wr)) (fun _ i _ => (64 - intOf i).toNat)
  case atStart => exact ⟨0, rfl, by omega, Lib.hid (by simpa [longTo] using h1.out), b1⟩
  case round =>
    obtain ⟨k, rfl, hk, hR, hB⟩ := hrel
    by_cases hlt : k < 8
    · have d1 : decide (((8 * k : Nat) : Int) < 64) = true := decide_eq_true (by omega)
      have bz := hB.out.size
      go_wp2_with (at_builtin; refine Classical.byContradiction fun hnot => ?_)
      have hx := long_byte v k
      have hnx := Lib.hid (longTo_next (bits64 v) k)
      obtain ⟨x, ex⟩ : ∃ x, UInt8.ofNat (bits64 v / 2 ^ (8 * k) % 256) = x := ⟨_, rfl⟩
      rw [ex] at hx hnx
      clear ex
      refine hnot ?_
      clear hnot
      rw [hx]
      have H1 := Lib.hid (hR.out.alloc (.cells #[.int .u8 x.toNat] 5))
      have S1 := Lib.hid (hb_one wr x)
      have hll : (l ++ longTo (bits64 v) k).length = n + k := by rw [List.length_append, hl.out, longTo_len]
      refine wpList_onto_b (by rfl) (.tmp 14) (.tmp 20) 26 (by rfl) w.heap.size i0 Tryd.underlying26 hi0 hz0 hz1 hz2 _ _ (by rfl) H1.out _ 1 1 _ (by rfl) S1.out (fun e => by cases e) (by rw [hll]; omega) (by simp; omega) ?_
      intro r2 w2 h2 g2 _
      have b2 := Lib.hid (RB.below (hB.out.alloc bz _) H1.out g2)
      have h2 := Lib.hid h2
      clear g2
      go_wp2_with fail
      go_roundw
      case rel => exact ⟨k + 1, by go_num, by omega, Lib.hid (by rw [hnx.out, ← List.append_assoc]; exact h2.out), b2⟩
      case measure => simp [intOf]; omega
    · obtain rfl : k = 8 := by omega
      have d1 : decide (((8 * 8 : Nat) : Int) < 64) = false := by decide
      go_wp2_with fail
      go_ret
      exact ⟨_, rfl, hR.out, hB.out⟩
end Go.Proofs.YtjhfgajhmenboaaDoor
