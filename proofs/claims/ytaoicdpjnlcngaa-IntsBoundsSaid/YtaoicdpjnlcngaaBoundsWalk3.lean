/-
  The walk of the law IntsBounds.
-/
import Derived.Test.YtaoicdpjnlcngaaBoundsPlain
namespace Go.Proofs.Ytaoicdpjnlcngaa
open Go.RowKit
set_option linter.unusedVariables false

set_option maxRecDepth 100000 in
set_option maxHeartbeats 4000000 in
theorem Bounds_np_n (a b : Int) (w : World) (a0 : a < 0) (b0 : 0 ≤ b) (ok : fitB (a + b) = true) (s0 : a + b < 0) (a1 : -9223372036854775808 ≤ a) (a2 : a ≤ 9223372036854775807) (b1 : -9223372036854775808 ≤ b) (b2 : b ≤ 9223372036854775807) :
    Calls Try.prog 8 #[.int .i64 a, .int .i64 b] w (Drawn (.returned (.bool true)) w) := by
  obtain ⟨A, r, hA, hr, r1, r2, A1, A2⟩ := half_of a0
  have hC := half_mix (x := r + b % 2) (by omega) (by omega)
  obtain ⟨s, hs⟩ : ∃ s, a + b = s := ⟨_, rfl⟩
  have g := (fitB_iff _).1 ok
  rw [hs] at g s0
  obtain ⟨s1, s2⟩ := g
  have S := Lib.hid (fun w => Add_yes w a1 a2 b1 b2 hs s1 s2)
  obtain ⟨T, u, hT, hu, u1, u2, T1, T2⟩ := half_of s0
  have three : (T ≤ A + b / 2 ∧ A + b / 2 ≤ T) ∨ (T ≤ A + b / 2 + 1 ∧ A + b / 2 + 1 ≤ T) ∨ (T ≤ A + b / 2 - 1 ∧ A + b / 2 - 1 ≤ T) := by omega
  clear hs ok
  obtain ⟨fine, hfine⟩ : ∃ d, fitB (a - b) = d := ⟨_, rfl⟩
  have Hfine := Lib.hid hfine
  clear hfine
  rcases three with ⟨h1, h2⟩ | ⟨h1, h2⟩ | ⟨h1, h2⟩
  all_goals
    go_enter Try.func8, Try.ntmps8
    go_wp2_with fail
    refine (S.out _).mono ?_; rintro e w' ⟨rfl, rfl⟩
    go_wp2_with fail
    cases fine
  all_goals
    first
    | (refine (Sub_no _ a1 a2 b1 b2 Hfine.out).mono ?_; rintro e w' ⟨rfl, rfl⟩
       go_wp2_with (go_at_call 15; refine (Known_any _).mono ?_; rintro e w' ⟨rfl, n, rfl⟩)
       go_ret
       exact ⟨rfl, n, rfl⟩)
    | (obtain ⟨m, hm⟩ : ∃ m, a - b = m := ⟨_, rfl⟩
       have g := (fitB_iff _).1 Hfine.out
       rw [hm] at g
       obtain ⟨m1, m2⟩ := g
       have m3 : m + b ≤ a := by omega
       have m4 : a ≤ m + b := by omega
       have Hm := Lib.hid hm
       clear hm
       refine (Sub_yes _ a1 a2 b1 b2 Hm.out m1 m2).mono ?_; rintro e w' ⟨rfl, rfl⟩
       go_wp2_with (go_at_call 15; refine (Known_any _).mono ?_; rintro e w' ⟨rfl, n, rfl⟩)
       go_ret
       exact ⟨rfl, n, rfl⟩)

set_option maxRecDepth 100000 in
set_option maxHeartbeats 4000000 in
theorem Bounds_np_p (a b : Int) (w : World) (a0 : a < 0) (b0 : 0 ≤ b) (ok : fitB (a + b) = true) (s0 : 0 ≤ a + b) (a1 : -9223372036854775808 ≤ a) (a2 : a ≤ 9223372036854775807) (b1 : -9223372036854775808 ≤ b) (b2 : b ≤ 9223372036854775807) :
    Calls Try.prog 8 #[.int .i64 a, .int .i64 b] w (Drawn (.returned (.bool true)) w) := by
  obtain ⟨A, r, hA, hr, r1, r2, A1, A2⟩ := half_of a0
  have hC := half_mix (x := r + b % 2) (by omega) (by omega)
  obtain ⟨s, hs⟩ : ∃ s, a + b = s := ⟨_, rfl⟩
  have g := (fitB_iff _).1 ok
  rw [hs] at g s0
  obtain ⟨s1, s2⟩ := g
  have S := Lib.hid (fun w => Add_yes w a1 a2 b1 b2 hs s1 s2)
  have three : (s / 2 ≤ A + b / 2 ∧ A + b / 2 ≤ s / 2) ∨ (s / 2 ≤ A + b / 2 + 1 ∧ A + b / 2 + 1 ≤ s / 2) ∨ (s / 2 ≤ A + b / 2 - 1 ∧ A + b / 2 - 1 ≤ s / 2) := by omega
  clear hs ok
  obtain ⟨fine, hfine⟩ : ∃ d, fitB (a - b) = d := ⟨_, rfl⟩
  have Hfine := Lib.hid hfine
  clear hfine
  rcases three with ⟨h1, h2⟩ | ⟨h1, h2⟩ | ⟨h1, h2⟩
  all_goals
    go_enter Try.func8, Try.ntmps8
    go_wp2_with fail
    refine (S.out _).mono ?_; rintro e w' ⟨rfl, rfl⟩
    go_wp2_with fail
    cases fine
  all_goals
    first
    | (refine (Sub_no _ a1 a2 b1 b2 Hfine.out).mono ?_; rintro e w' ⟨rfl, rfl⟩
       go_wp2_with (go_at_call 15; refine (Known_any _).mono ?_; rintro e w' ⟨rfl, n, rfl⟩)
       go_ret
       exact ⟨rfl, n, rfl⟩)
    | (obtain ⟨m, hm⟩ : ∃ m, a - b = m := ⟨_, rfl⟩
       have g := (fitB_iff _).1 Hfine.out
       rw [hm] at g
       obtain ⟨m1, m2⟩ := g
       have m3 : m + b ≤ a := by omega
       have m4 : a ≤ m + b := by omega
       have Hm := Lib.hid hm
       clear hm
       refine (Sub_yes _ a1 a2 b1 b2 Hm.out m1 m2).mono ?_; rintro e w' ⟨rfl, rfl⟩
       go_wp2_with (go_at_call 15; refine (Known_any _).mono ?_; rintro e w' ⟨rfl, n, rfl⟩)
       go_ret
       exact ⟨rfl, n, rfl⟩)
end Go.Proofs.Ytaoicdpjnlcngaa
