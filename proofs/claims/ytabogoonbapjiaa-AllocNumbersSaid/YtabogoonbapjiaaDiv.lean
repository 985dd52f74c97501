/-
  The contract of math/bits.Div64, for a divisor that is an int64.
-/
import Derived.Test.YtabogoonbapjiaaMul
import Derived.Test.YtabogoonbapjiaaDivPlain
import Derived.Deep.QuietTactic
import Derived.BigQuiet
namespace Go.Proofs.Ytabogoonbapjiaa
open Go.RowKit
set_option linter.unusedVariables false

/-- The call gives this quotient, and some rest; of the world it has at most drawn. -/
def QuoIs (q : Int) (w : World) (e : Ending) (w' : World) : Prop := ∃ (r : Int) (n : Nat), e = .returned (.tuple #[.int .u64 q, .int .u64 r]) ∧ w' = w.drewN n

set_option maxHeartbeats 400000 in
theorem Div64_low (lo y : Int) (w : World) (y1 : 1 ≤ y) (y2 : y ≤ 18446744073709551615) (l1 : 0 ≤ lo) (l2 : lo < 18446744073709551616) :
    Calls Try.prog 40 #[.int .u64 0, .int .u64 lo, .int .u64 y] w (QuoIs (lo / y) w) := by
  go_enter Try.func40, Try.ntmps40
  go_wp2
  go_quiet (fail)
  go_wp2
  go_ret2
  exact ⟨_, _, rfl, rfl⟩

set_option maxRecDepth 100000 in
set_option maxHeartbeats 1600000 in
theorem Div64_high (hi lo y s Y b1 b0 u z v1 v0 Q1 Q0 : Int) (w : World) (hi1 : 1 ≤ hi) (hi2 : hi < y) (y1 : 1 ≤ y) (y2 : y ≤ 9223372036854775807) (s1 : 1 ≤ s) (s2 : s ≤ 63)
    (L : Hid (∀ w, Calls Try.prog 44 #[.int .u64 y] w fun e w' => e = .returned (.int .i64 s) ∧ w = w'))
    (e1 : IntKind.u64.wrap (y * 2 ^ s.toNat) = Y) (e2 : Y / 4294967296 = b1) (e3 : bits .and .u64 Y 4294967295 = b0)
    (e4 : bits .or .u64 (IntKind.u64.wrap (hi * 2 ^ s.toNat)) (lo / 2 ^ (64 - s).toNat) = u) (e5 : IntKind.u64.wrap (lo * 2 ^ s.toNat) = z) (e6 : z / 4294967296 = v1) (e7 : bits .and .u64 z 4294967295 = v0)
    (Y1 : 1 ≤ Y) (Y2 : Y < 18446744073709551616) (B1 : 2147483648 ≤ b1) (B2 : b1 ≤ 4294967295) (B3 : 0 ≤ b0) (B4 : b0 < 4294967296)
    (U1 : 0 ≤ u) (U2 : u < Y) (Z1 : 0 ≤ z) (V1 : 0 ≤ v1) (V2 : v1 < 4294967296) (V3 : 0 ≤ v0) (V4 : v0 < 4294967296)
    (hY : Hid (Y = b1 * 4294967296 + b0)) (A1 : Hid (Q1 * Y ≤ u * 4294967296 + v1)) (A2 : Hid (u * 4294967296 + v1 < Q1 * Y + Y)) (A3 : 0 ≤ Q1) (A4 : Q1 ≤ 4294967295)
    (C1 : Hid (Q0 * Y ≤ (u * 4294967296 + v1 - Q1 * Y) * 4294967296 + v0)) (C2 : Hid ((u * 4294967296 + v1 - Q1 * Y) * 4294967296 + v0 < Q0 * Y + Y)) (C3 : 0 ≤ Q0) (C4 : Q0 ≤ 4294967295) :
    Calls Try.prog 40 #[.int .u64 hi, .int .u64 lo, .int .u64 y] w (QuoIs (Q1 * 4294967296 + Q0) w) := by
  obtain ⟨u2, hu2⟩ : ∃ x, u * 4294967296 + v1 - Q1 * Y = x := ⟨_, rfl⟩
  have e8 := half_next A1.out A2.out Y2 V1 V2 U1
  rw [hu2] at e8 C1 C2
  have u20 : 0 ≤ u2 := by have := A1.out; omega
  have u21 : u2 < Y := by have := A2.out; omega
  clear hu2
  obtain ⟨q2, r2, f1, f2, st2, f3, f4, f5, f6, f7, f8⟩ := half_begin hY.out u20 (by omega) (by omega) B2 B3 V4 C3 C1.out
  obtain ⟨q, r, hq, hr, st, q0, q1, r0, r1, p0, p1⟩ := half_begin hY.out U1 (by omega) (by omega) B2 B3 V2 A3 A1.out
  have St := Lib.hid st
  have Hq := Lib.hid hq
  have St2 := Lib.hid st2
  clear st st2
  go_enter Try.func40, Try.ntmps40
  go_wp2_with (go_at_call 44; refine (L.out _).mono ?_; rintro e w' ⟨rfl, rfl⟩)
  clear p0 p1 hq hr L e1 e2 e3 e4 e5 e6 e7
  go_loop [15, 16] (fun a b => ∃ q r : Int, a = .int .u64 q ∧ b = .int .u64 r ∧ Hid (Half b1 u Q1 q r) ∧ 0 ≤ q ∧ q ≤ 18446744073709551615 ∧ 0 ≤ r ∧ r < 4294967296) (fun a _ => (intOf a).toNat)
  case atStart => exact ⟨q, r, by rw [Hq.out], rfl, St, q0, q1, r0, r1⟩
  case round =>
    clear St q0 q1 r0 r1
    obtain ⟨q, r, rfl, rfl, H, q0, q1, r0, r1⟩ := hrel
    rcases half_cases H.out hY.out U2 V1 V2 (by omega) B3 B4 A1.out A2.out Y1 A3 with ⟨c1, c2, hs⟩ | ⟨c1, ⟨m1, m2⟩, c3, c2, hs⟩ | ⟨c1, c2, hs⟩ | ⟨c1, ⟨m1, m2⟩, c3, c2, hs⟩ | ⟨c1, ⟨m1, m2⟩, c3, rfl⟩
    · go_wp2
      go_round
      case rel => exact ⟨_, _, rfl, rfl, Lib.hid (half_step H.out (by omega) hs), by omega, by omega, by omega, by omega⟩
      case measure => simp [intOf]; omega
    · go_wp2
      go_round
      case rel => exact ⟨_, _, rfl, rfl, Lib.hid (half_step H.out (by omega) hs), by omega, by omega, by omega, by omega⟩
      case measure => simp [intOf]; omega
    all_goals
      go_wp2
      clear e8 f1 f2 f7 f8
      go_loop [18, 16] (fun a b => ∃ q r : Int, a = .int .u64 q ∧ b = .int .u64 r ∧ Hid (Half b1 u2 Q0 q r) ∧ 0 ≤ q ∧ q ≤ 18446744073709551615 ∧ 0 ≤ r ∧ r < 4294967296) (fun a _ => (intOf a).toNat)
      case atStart => exact ⟨_, _, rfl, rfl, St2, f3, f4, f5, f6⟩
      case round =>
        clear St2 f3 f4 f5 f6
        obtain ⟨q', r', rfl, rfl, H', q0', q1', r0', r1'⟩ := hrel
        rcases half_cases H'.out hY.out u21 V3 V4 (by omega) B3 B4 C1.out C2.out Y1 C3 with ⟨c1', c2', hs'⟩ | ⟨c1', ⟨m1', m2'⟩, c3', c2', hs'⟩ | ⟨c1', c2', hs'⟩ | ⟨c1', ⟨m1', m2'⟩, c3', c2', hs'⟩ | ⟨c1', ⟨m1', m2'⟩, c3', rfl⟩
        · go_wp2
          go_round
          case rel => exact ⟨_, _, rfl, rfl, Lib.hid (half_step H'.out (by omega) hs'), by omega, by omega, by omega, by omega⟩
          case measure => simp [intOf]; omega
        · go_wp2
          go_round
          case rel => exact ⟨_, _, rfl, rfl, Lib.hid (half_step H'.out (by omega) hs'), by omega, by omega, by omega, by omega⟩
          case measure => simp [intOf]; omega
        all_goals
          go_wp2
          go_ret2
          exact ⟨_, 0, rfl, rfl⟩
end Go.Proofs.Ytabogoonbapjiaa
