/-
  The contract of the document's own Share: bit by bit.
-/
import Derived.Test.YtabogoonbapjiaaLeaf2
import Derived.Test.YtabogoonbapjiaaSharePlain
namespace Go.Proofs.Ytabogoonbapjiaa
open Go.RowKit
set_option linter.unusedVariables false

set_option maxHeartbeats 400000 in
theorem RefShare_bad (a b c : Int) (w : World) (h : a < 0 ∨ b < 0 ∨ c < 1) :
    Calls Try.prog 37 #[.int .i64 a, .int .i64 b, .int .i64 c] w fun e w' => e = .returned (.tuple #[.int .i64 0, .bool false]) ∧ w = w' := by
  by_cases h1 : a < 0
  · clear h
    go_enter Try.func37, Try.ntmps37
    go_wp2
    go_ret2
    exact ⟨rfl, rfl⟩
  by_cases h2 : b < 0
  · clear h
    go_enter Try.func37, Try.ntmps37
    go_wp2
    go_ret2
    exact ⟨rfl, rfl⟩
  have h3 : c < 1 := by omega
  clear h
  go_enter Try.func37, Try.ntmps37
  go_wp2
  go_ret2
  exact ⟨rfl, rfl⟩

set_option maxRecDepth 100000 in
set_option maxHeartbeats 1600000 in
theorem RefShare_any (a b c : Int) (w : World) (a1 : 0 ≤ a) (a2 : a ≤ 9223372036854775807) (b1 : 0 ≤ b) (b2 : b ≤ 9223372036854775807) (c1 : 1 ≤ c) (c2 : c ≤ 9223372036854775807) :
    Calls Try.prog 37 #[.int .i64 a, .int .i64 b, .int .i64 c] w (fun e w' => e = .returned (.tuple #[.int .i64 (pick (a * b / c)), .bool (fitB (a * b / c))]) ∧ w = w') := by
  obtain ⟨x, hx⟩ : ∃ x, a / c = x := ⟨_, rfl⟩
  obtain ⟨y, hy⟩ : ∃ y, a % c = y := ⟨_, rfl⟩
  have ha : x * c + y = a := by rw [← hx, ← hy, Int.mul_comm]; exact Int.mul_ediv_add_emod a c
  have x0 : 0 ≤ x := by rw [← hx]; exact Int.ediv_nonneg a1 (by omega)
  have y0 : 0 ≤ y := by rw [← hy]; exact Int.emod_nonneg a (by omega)
  have y1 : y < c := by rw [← hy]; exact Int.emod_lt_of_pos a (by omega)
  have x1 : x ≤ 9223372036854775807 := by have := Int.ediv_le_self c a1; omega
  have Ha := Lib.hid ha
  have Hx := Lib.hid hx
  have Hy := Lib.hid hy
  clear ha
  obtain ⟨R, hR⟩ : ∃ R : Ending, Ending.returned (.tuple #[.int .i64 (pick (a * b / c)), .bool (fitB (a * b / c))]) = R := ⟨_, rfl⟩
  rw [hR]
  have HR := Lib.hid hR
  clear hR
  have st : Hid (Part a c (b / 2 ^ ((62 : Int) + 1).toNat) 0 0) := Lib.hid (by rw [pre_top b b1 b2]; exact part_zero c1)
  go_enter Try.func37, Try.ntmps37
  go_wp2
  clear hx hy
  rw [Hx.out, Hy.out]
  go_loop [8, 9, 13] (fun s t k => ∃ q r i : Int, s = .int .u64 q ∧ t = .int .u64 r ∧ k = .int .i64 i ∧ Hid (Part a c (b / 2 ^ (i + 1).toNat) q r) ∧ -1 ≤ i ∧ i ≤ 62 ∧ 0 ≤ q ∧ q ≤ 18446744073709551615 ∧ 0 ≤ r ∧ r < c) (fun _ _ k => (intOf k + 1).toNat)
  case atStart => exact ⟨_, _, _, rfl, rfl, rfl, st, by omega, by omega, by omega, by omega, by omega, by omega⟩
  case round =>
    clear st
    obtain ⟨q, r, i, rfl, rfl, rfl, H, i1, i2, q0, q1, r0, r1⟩ := hrel
    by_cases hi : 0 ≤ i
    · obtain ⟨P, hP⟩ : ∃ P, b / 2 ^ (i + 1).toNat = P := ⟨_, rfl⟩
      obtain ⟨p, hp⟩ : ∃ p, b / 2 ^ i.toNat = p := ⟨_, rfl⟩
      have hpre := pre_step b i hi
      obtain ⟨m1, m2⟩ := pre_le b i.toNat b1
      rw [hP] at hpre H
      rw [hp] at hpre m1 m2
      have hm : p % 2 = 0 ∨ p % 2 = 1 := by omega
      have hb := bit_of m2 (by omega)
      by_cases big : 9223372036854775808 ≤ q
      · have fin : R = Ending.returned (.tuple #[.int .i64 0, .bool false]) := by
          rw [← HR.out, ← ret2_no (part_off (b := b) (P := P) H.out.1 r0 c1 a1 (by omega) big)]
        have Fin := Lib.hid fin
        clear fin hP hp hpre hb
        go_wp2
        go_ret2
        exact ⟨Fin.out.symm, rfl⟩
      · have nx : b / 2 ^ (i - 1 + 1).toNat = p := by rw [show i - 1 + 1 = i by omega, hp]
        have Nx := Lib.hid nx
        clear nx
        by_cases s1 : 2 * r < c
        · have H1 := Lib.hid (part_0a H.out s1)
          clear H
          rcases hm with hm | hm
          · have HN : Hid (Part a c (b / 2 ^ (i - 1 + 1).toNat) (2 * q) (2 * r)) := Lib.hid (by rw [Nx.out, show p = 2 * P by omega]; exact H1.out)
            clear hP hpre
            go_wp2
            go_round
            case rel => exact ⟨_, _, _, rfl, rfl, rfl, HN, by omega, by omega, by omega, by omega, by omega, by omega⟩
            case measure => simp [intOf]; omega
          · have e1 : p = 2 * P + 1 := by omega
            by_cases t1 : 9223372036854775807 < 2 * q
            · have fin : R = Ending.returned (.tuple #[.int .i64 0, .bool false]) := by
                rw [← HR.out, ← ret2_no (part_off2 (b := b) H1.out Ha.out y0 c1 a1 (by omega) (by omega))]
              have Fin := Lib.hid fin
              clear fin hP hpre e1
              go_wp2
              go_ret2
              exact ⟨Fin.out.symm, rfl⟩
            by_cases t2 : 9223372036854775807 - (2 * q) < x
            · have fin : R = Ending.returned (.tuple #[.int .i64 0, .bool false]) := by
                rw [← HR.out, ← ret2_no (part_off2 (b := b) H1.out Ha.out y0 c1 a1 (by omega) (by omega))]
              have Fin := Lib.hid fin
              clear fin hP hpre e1
              go_wp2
              go_ret2
              exact ⟨Fin.out.symm, rfl⟩
            by_cases t3 : 2 * r + y < c
            · have HN : Hid (Part a c (b / 2 ^ (i - 1 + 1).toNat) (2 * q + x) (2 * r + y)) := Lib.hid (by rw [Nx.out, e1]; exact part_1a H1.out Ha.out x0 y0 t3)
              clear hP hpre e1
              go_wp2
              go_round
              case rel => exact ⟨_, _, _, rfl, rfl, rfl, HN, by omega, by omega, by omega, by omega, by omega, by omega⟩
              case measure => simp [intOf]; omega
            · have HN : Hid (Part a c (b / 2 ^ (i - 1 + 1).toNat) (2 * q + x + 1) (2 * r + y - c)) := Lib.hid (by rw [Nx.out, e1]; exact part_1b H1.out Ha.out x0 y0 y1 (by omega))
              clear hP hpre e1
              go_wp2
              go_round
              case rel => exact ⟨_, _, _, rfl, rfl, rfl, HN, by omega, by omega, by omega, by omega, by omega, by omega⟩
              case measure => simp [intOf]; omega
        · have H1 := Lib.hid (part_0b H.out (by omega))
          clear H
          rcases hm with hm | hm
          · have HN : Hid (Part a c (b / 2 ^ (i - 1 + 1).toNat) (2 * q + 1) (2 * r - c)) := Lib.hid (by rw [Nx.out, show p = 2 * P by omega]; exact H1.out)
            clear hP hpre
            go_wp2
            go_round
            case rel => exact ⟨_, _, _, rfl, rfl, rfl, HN, by omega, by omega, by omega, by omega, by omega, by omega⟩
            case measure => simp [intOf]; omega
          · have e1 : p = 2 * P + 1 := by omega
            by_cases t1 : 9223372036854775807 < 2 * q + 1
            · have fin : R = Ending.returned (.tuple #[.int .i64 0, .bool false]) := by
                rw [← HR.out, ← ret2_no (part_off2 (b := b) H1.out Ha.out y0 c1 a1 (by omega) (by omega))]
              have Fin := Lib.hid fin
              clear fin hP hpre e1
              go_wp2
              go_ret2
              exact ⟨Fin.out.symm, rfl⟩
            by_cases t2 : 9223372036854775807 - (2 * q + 1) < x
            · have fin : R = Ending.returned (.tuple #[.int .i64 0, .bool false]) := by
                rw [← HR.out, ← ret2_no (part_off2 (b := b) H1.out Ha.out y0 c1 a1 (by omega) (by omega))]
              have Fin := Lib.hid fin
              clear fin hP hpre e1
              go_wp2
              go_ret2
              exact ⟨Fin.out.symm, rfl⟩
            by_cases t3 : 2 * r - c + y < c
            · have HN : Hid (Part a c (b / 2 ^ (i - 1 + 1).toNat) (2 * q + 1 + x) (2 * r - c + y)) := Lib.hid (by rw [Nx.out, e1]; exact part_1a H1.out Ha.out x0 y0 t3)
              clear hP hpre e1
              go_wp2
              go_round
              case rel => exact ⟨_, _, _, rfl, rfl, rfl, HN, by omega, by omega, by omega, by omega, by omega, by omega⟩
              case measure => simp [intOf]; omega
            · have HN : Hid (Part a c (b / 2 ^ (i - 1 + 1).toNat) (2 * q + 1 + x + 1) (2 * r - c + y - c)) := Lib.hid (by rw [Nx.out, e1]; exact part_1b H1.out Ha.out x0 y0 y1 (by omega))
              clear hP hpre e1
              go_wp2
              go_round
              case rel => exact ⟨_, _, _, rfl, rfl, rfl, HN, by omega, by omega, by omega, by omega, by omega, by omega⟩
              case measure => simp [intOf]; omega
    · have hi' : i = -1 := by omega
      subst hi'
      have hq : a * b / c = q := part_end (r := r) (by have h := H.out; rw [show ((-1 : Int) + 1).toNat = 0 from rfl, Int.pow_zero, Int.ediv_one] at h; exact h)
      by_cases big : 9223372036854775807 < q
      · have fin : R = Ending.returned (.tuple #[.int .i64 0, .bool false]) := by
          rw [← HR.out, hq, ← ret2_no (fitB_no (x := q) (by omega))]
        have Fin := Lib.hid fin
        clear fin hq
        go_wp2
        go_ret2
        exact ⟨Fin.out.symm, rfl⟩
      · have fin : R = Ending.returned (.tuple #[.int .i64 q, .bool true]) := by
          rw [← HR.out, hq, ← ret2_yes (fitB_yes (x := q) (by omega) (by omega))]
        have Fin := Lib.hid fin
        clear fin hq
        go_wp2
        go_ret2
        exact ⟨Fin.out.symm, rfl⟩
end Go.Proofs.Ytabogoonbapjiaa
