/-
  The contract of math/bits.Div64, put together.
-/
import Derived.Test.YtabogoonbapjiaaDiv
namespace Go.Proofs.Ytabogoonbapjiaa
open Go.RowKit
set_option linter.unusedVariables false

theorem Lead_to (y s : Int) (w : World) (y1 : 1 ≤ y) (y2 : y ≤ 9223372036854775807) (hs : s = 64 - (Lib.bitLen y.toNat : Int)) :
    Calls Try.prog 44 #[.int .u64 y] w fun e w' => e = .returned (.int .i64 s) ∧ w = w' := by
  have c := Try.bits_LeadingZeros64 y w (by omega) (by omega)
  rw [← hs] at c
  exact c.mono fun e w' h => ⟨h.1, h.2.symm⟩

/-- math/bits.Div64, for a divisor that is an int64: the quotient of the two words. -/
theorem Div64_any (hi lo y : Int) (w : World) (hi1 : 0 ≤ hi) (hi2 : hi < y) (y2 : y ≤ 9223372036854775807) (l1 : 0 ≤ lo) (l2 : lo < 18446744073709551616) :
    Calls Try.prog 40 #[.int .u64 hi, .int .u64 lo, .int .u64 y] w (QuoIs ((hi * 18446744073709551616 + lo) / y) w) := by
  by_cases h0 : hi = 0
  · subst h0
    rw [Int.zero_mul, Int.zero_add]
    exact Div64_low lo y w (by omega) (by omega) l1 l2
  have y1 : 1 ≤ y := by omega
  obtain ⟨hn, rfl⟩ := Int.eq_ofNat_of_zero_le hi1
  obtain ⟨ln, rfl⟩ := Int.eq_ofNat_of_zero_le l1
  obtain ⟨yn, rfl⟩ := Int.eq_ofNat_of_zero_le (show 0 ≤ y by omega)
  obtain ⟨n1, n2, n3, n4⟩ := norm yn (by omega) (by omega)
  obtain ⟨s, hs⟩ : ∃ s : Nat, 64 - Lib.bitLen yn = s := ⟨_, rfl⟩
  rw [hs] at n1 n3 n4
  have p : 0 < 2 ^ s := Nat.pow_pos (by omega)
  have hh : hn * 2 ^ s < yn * 2 ^ s := Nat.mul_lt_mul_of_pos_right (by omega) p
  have hh' : (hn + 1) * 2 ^ s ≤ yn * 2 ^ s := Nat.mul_le_mul_right _ (by omega)
  obtain ⟨g1, g2, g3⟩ := words hn ln s n1 (by omega) (by omega) (Nat.lt_trans hh n4)
  have L := Lib.hid (fun w => Lead_to (yn : Int) (s : Int) w y1 y2 (by rw [Int.toNat_natCast]; omega))
  have e1 : IntKind.u64.wrap ((yn : Int) * 2 ^ (s : Int).toNat) = ((yn * 2 ^ s : Nat) : Int) := by
    rw [Int.toNat_natCast, IntKind.wrap_u64, show (yn : Int) * 2 ^ s = ((yn * 2 ^ s : Nat) : Int) from by rw [Int.natCast_mul, Int.natCast_pow]; rfl]
    exact Int.emod_eq_of_lt (Int.natCast_nonneg _) (cast_lt n4)
  have e4 : bits .or .u64 (IntKind.u64.wrap ((hn : Int) * 2 ^ (s : Int).toNat)) ((ln : Int) / 2 ^ (64 - (s : Int)).toNat) = ((hn * 2 ^ s + ln / 2 ^ (64 - s) : Nat) : Int) := by
    rw [← g1, Int.toNat_natCast, show (64 - (s : Int)).toNat = 64 - s by omega, IntKind.wrap_u64, show (hn : Int) * 2 ^ s = ((hn * 2 ^ s : Nat) : Int) from by rw [Int.natCast_mul, Int.natCast_pow]; rfl,
      show (ln : Int) / 2 ^ (64 - s) = ((ln / 2 ^ (64 - s) : Nat) : Int) from by rw [Int.natCast_ediv, Int.natCast_pow]; rfl,
      Int.emod_eq_of_lt (Int.natCast_nonneg _) (cast_lt (Nat.lt_trans hh n4))]
  have e5 : IntKind.u64.wrap ((ln : Int) * 2 ^ (s : Int).toNat) = ((ln * 2 ^ s % 18446744073709551616 : Nat) : Int) := by
    rw [Int.toNat_natCast, IntKind.wrap_u64, show (ln : Int) * 2 ^ s = ((ln * 2 ^ s : Nat) : Int) from by rw [Int.natCast_mul, Int.natCast_pow]; rfl]
    exact (Int.natCast_emod _ _).symm
  have tot : (((hn * 2 ^ s + ln / 2 ^ (64 - s) : Nat) : Int)) * 18446744073709551616 + ((ln * 2 ^ s % 18446744073709551616 : Nat) : Int) = ((hn : Int) * 18446744073709551616 + ln) * ((2 ^ s : Nat) : Int) := cast_eq g2
  have z2 : ln * 2 ^ s % 18446744073709551616 < 18446744073709551616 := Nat.mod_lt _ (by omega)
  have p' : (0 : Int) < ((2 ^ s : Nat) : Int) := by omega
  have hY : ((yn * 2 ^ s : Nat) : Int) = (yn : Int) * ((2 ^ s : Nat) : Int) := Int.natCast_mul _ _
  rw [Nat.add_mul, Nat.one_mul] at hh'
  have u2' : hn * 2 ^ s + ln / 2 ^ (64 - s) < yn * 2 ^ s := by
    generalize 2 ^ s = K at *
    generalize ln / 2 ^ (64 - s) = J at *
    generalize hn * K = a at *
    omega
  clear g1 g2 g3 hh hh'
  generalize hn * 2 ^ s + ln / 2 ^ (64 - s) = u at *
  generalize ln * 2 ^ s % 18446744073709551616 = z at *
  generalize ((2 ^ s : Nat) : Int) = K at *
  generalize yn * 2 ^ s = Y at *
  obtain ⟨a1, a2, a3⟩ := quo_bds ((u : Int) * 4294967296 + (z : Int) / 4294967296) Y (by omega) (by omega)
  obtain ⟨Q1, hQ1⟩ : ∃ q, ((u : Int) * 4294967296 + (z : Int) / 4294967296) / Y = q := ⟨_, rfl⟩
  rw [hQ1] at a1 a2 a3
  obtain ⟨c1, c2, c3⟩ := quo_bds (((u : Int) * 4294967296 + (z : Int) / 4294967296 - Q1 * Y) * 4294967296 + (z : Int) % 4294967296) Y (by omega) (by omega)
  obtain ⟨Q0, hQ0⟩ : ∃ q, (((u : Int) * 4294967296 + (z : Int) / 4294967296 - Q1 * Y) * 4294967296 + (z : Int) % 4294967296) / Y = q := ⟨_, rfl⟩
  rw [hQ0] at c1 c2 c3
  have b1 : Q1 < 4294967296 := Int.lt_of_mul_lt_mul_right (a := (Y : Int)) (by omega) (by omega)
  have b0 : Q0 < 4294967296 := Int.lt_of_mul_lt_mul_right (a := (Y : Int)) (by omega) (by omega)
  have all := whole a1 (show (1 : Int) ≤ Y by omega) c1 c2
  rw [show (z : Int) / 4294967296 * 4294967296 + (z : Int) % 4294967296 = z by omega, tot, hY, Int.mul_ediv_mul_of_pos_left _ _ p'] at all
  rw [← all]
  exact Div64_high hn ln yn s Y ((Y : Int) / 4294967296) ((Y : Int) % 4294967296) u z ((z : Int) / 4294967296) ((z : Int) % 4294967296) Q1 Q0 w (by omega) hi2 y1 y2 (by omega) (by omega) L e1 rfl (mask32 (by omega) (by omega)) e4 e5 rfl (mask32 (by omega) (by omega))
    (by omega) (by omega) (by omega) (by omega) (by omega) (by omega) (by omega) (by omega) (by omega) (by omega) (by omega) (by omega) (by omega) (Lib.hid (by omega)) (Lib.hid a1) (Lib.hid a2) a3 (by omega) (Lib.hid c1) (Lib.hid c2) c3 (by omega)
end Go.Proofs.Ytabogoonbapjiaa
