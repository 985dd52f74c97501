/-
  The walk of the law IntsBounds.
-/
import Derived.Test.YtaoicdpjnlcngaaBoundsPlain
namespace Go.Proofs.Ytaoicdpjnlcngaa
open Go.RowKit
set_option linter.unusedVariables false

set_option maxRecDepth 100000 in
set_option maxHeartbeats 4000000 in
theorem Bounds_pp_yes (a b : Int) (w : World) (a0 : 0 ≤ a) (b0 : 0 ≤ b) (ok : fitB (a + b) = true) (s0 : 0 ≤ a + b) (a1 : -9223372036854775808 ≤ a) (a2 : a ≤ 9223372036854775807) (b1 : -9223372036854775808 ≤ b) (b2 : b ≤ 9223372036854775807) :
    Calls Try.prog 8 #[.int .i64 a, .int .i64 b] w (Drawn (.returned (.bool true)) w) := by
  obtain ⟨s, hs⟩ : ∃ s, a + b = s := ⟨_, rfl⟩
  have g := (fitB_iff _).1 ok
  rw [hs] at g s0
  obtain ⟨s1, s2⟩ := g
  have S := Lib.hid (fun w => Add_yes w a1 a2 b1 b2 hs s1 s2)
  have three : (s / 2 ≤ a / 2 + b / 2 + (a % 2 + b % 2) / 2 ∧ a / 2 + b / 2 + (a % 2 + b % 2) / 2 ≤ s / 2) ∨ (s / 2 ≤ a / 2 + b / 2 + (a % 2 + b % 2) / 2 + 1 ∧ a / 2 + b / 2 + (a % 2 + b % 2) / 2 + 1 ≤ s / 2) ∨ (s / 2 ≤ a / 2 + b / 2 + (a % 2 + b % 2) / 2 - 1 ∧ a / 2 + b / 2 + (a % 2 + b % 2) / 2 - 1 ≤ s / 2) := by omega
  clear hs ok
  have last : b < 1 ∨ ∃ q f : Int, 1 ≤ b ∧ Hid (a * 1 / b = q) ∧ Hid (a - a % b = f) ∧ 0 ≤ q ∧ q ≤ a ∧ 0 ≤ q * b ∧ q * b ≤ a ∧ q * b ≤ f ∧ f ≤ q * b ∧ a / b ≤ q ∧ q ≤ a / b := by
    by_cases h : b < 1
    · exact .inl h
    · obtain ⟨q, f, h1, h2, h3⟩ := share_floor a0 (b := b) (by omega)
      exact .inr ⟨q, f, by omega, Lib.hid h1, Lib.hid h2, h3⟩
  obtain ⟨fine, hfine⟩ : ∃ d, fitB (a - b) = d := ⟨_, rfl⟩
  have Hfine := Lib.hid hfine
  clear hfine
  rcases three with ⟨h1, h2⟩ | ⟨h1, h2⟩ | ⟨h1, h2⟩
  all_goals
    go_enter Try.func8, Try.ntmps8
    go_wp2_with fail
    refine (S.out _).mono ?_; rintro e w' ⟨rfl, rfl⟩
    go_wp2_with fail
    cases fine
  all_goals
    first
    | (refine (Sub_no _ a1 a2 b1 b2 Hfine.out).mono ?_; rintro e w' ⟨rfl, rfl⟩
       rcases last with b3 | ⟨q, f, b3, hq, hf, g1, g2, g3, g4, g5, g6, g7, g8⟩
       · go_wp2_with (go_at_call 15; refine (Known_any _).mono ?_; rintro e w' ⟨rfl, n, rfl⟩)
         go_ret
         exact ⟨rfl, n, rfl⟩
       · go_wp2_with fail
         refine (Share_yes (q := q) _ a0 a2 (by omega) (by omega) b3 b2 hq.out (by omega) (by omega)).mono ?_; rintro e w' ⟨rfl, m, rfl⟩
         go_wp2_with fail
         refine (Floor_yes (s := f) _ a1 a2 b3 b2 hf.out (by omega) (by omega)).mono ?_; rintro e w' ⟨rfl, rfl⟩
         go_wp2_with (go_at_call 15; refine (Known_any _).mono ?_; rintro e w' ⟨rfl, n, rfl⟩)
         go_ret
         exact ⟨rfl, _, rfl⟩)
    | (obtain ⟨m, hm⟩ : ∃ m, a - b = m := ⟨_, rfl⟩
       have g := (fitB_iff _).1 Hfine.out
       rw [hm] at g
       obtain ⟨m1, m2⟩ := g
       have m3 : m + b ≤ a := by omega
       have m4 : a ≤ m + b := by omega
       have Hm := Lib.hid hm
       clear hm
       refine (Sub_yes _ a1 a2 b1 b2 Hm.out m1 m2).mono ?_; rintro e w' ⟨rfl, rfl⟩
       rcases last with b3 | ⟨q, f, b3, hq, hf, g1, g2, g3, g4, g5, g6, g7, g8⟩
       · go_wp2_with (go_at_call 15; refine (Known_any _).mono ?_; rintro e w' ⟨rfl, n, rfl⟩)
         go_ret
         exact ⟨rfl, n, rfl⟩
       · go_wp2_with fail
         refine (Share_yes (q := q) _ a0 a2 (by omega) (by omega) b3 b2 hq.out (by omega) (by omega)).mono ?_; rintro e w' ⟨rfl, m, rfl⟩
         go_wp2_with fail
         refine (Floor_yes (s := f) _ a1 a2 b3 b2 hf.out (by omega) (by omega)).mono ?_; rintro e w' ⟨rfl, rfl⟩
         go_wp2_with (go_at_call 15; refine (Known_any _).mono ?_; rintro e w' ⟨rfl, n, rfl⟩)
         go_ret
         exact ⟨rfl, _, rfl⟩)

set_option maxRecDepth 100000 in
set_option maxHeartbeats 4000000 in
theorem Bounds_pp_no (a b : Int) (w : World) (a0 : 0 ≤ a) (b0 : 0 ≤ b) (ok : fitB (a + b) = false) (a1 : -9223372036854775808 ≤ a) (a2 : a ≤ 9223372036854775807) (b1 : -9223372036854775808 ≤ b) (b2 : b ≤ 9223372036854775807) :
    Calls Try.prog 8 #[.int .i64 a, .int .i64 b] w (Drawn (.returned (.bool true)) w) := by
  have S := Lib.hid (fun w => Add_no w a1 a2 b1 b2 ok)
  have over : a + b < -9223372036854775808 ∨ 9223372036854775807 < a + b := by
    by_cases h : -9223372036854775808 ≤ a + b ∧ a + b ≤ 9223372036854775807
    · rw [fitB_yes h.1 h.2] at ok; cases ok
    · omega
  have ov : 4611686018427387903 ≤ a / 2 + b / 2 + (a % 2 + b % 2) / 2 := by omega
  clear over ok
  have last : b < 1 ∨ ∃ q f : Int, 1 ≤ b ∧ Hid (a * 1 / b = q) ∧ Hid (a - a % b = f) ∧ 0 ≤ q ∧ q ≤ a ∧ 0 ≤ q * b ∧ q * b ≤ a ∧ q * b ≤ f ∧ f ≤ q * b ∧ a / b ≤ q ∧ q ≤ a / b := by
    by_cases h : b < 1
    · exact .inl h
    · obtain ⟨q, f, h1, h2, h3⟩ := share_floor a0 (b := b) (by omega)
      exact .inr ⟨q, f, by omega, Lib.hid h1, Lib.hid h2, h3⟩
  obtain ⟨fine, hfine⟩ : ∃ d, fitB (a - b) = d := ⟨_, rfl⟩
  have Hfine := Lib.hid hfine
  clear hfine
  all_goals
    go_enter Try.func8, Try.ntmps8
    go_wp2_with fail
    refine (S.out _).mono ?_; rintro e w' ⟨rfl, rfl⟩
    go_wp2_with fail
    cases fine
  all_goals
    first
    | (refine (Sub_no _ a1 a2 b1 b2 Hfine.out).mono ?_; rintro e w' ⟨rfl, rfl⟩
       rcases last with b3 | ⟨q, f, b3, hq, hf, g1, g2, g3, g4, g5, g6, g7, g8⟩
       · go_wp2_with (go_at_call 15; refine (Known_any _).mono ?_; rintro e w' ⟨rfl, n, rfl⟩)
         go_ret
         exact ⟨rfl, n, rfl⟩
       · go_wp2_with fail
         refine (Share_yes (q := q) _ a0 a2 (by omega) (by omega) b3 b2 hq.out (by omega) (by omega)).mono ?_; rintro e w' ⟨rfl, m, rfl⟩
         go_wp2_with fail
         refine (Floor_yes (s := f) _ a1 a2 b3 b2 hf.out (by omega) (by omega)).mono ?_; rintro e w' ⟨rfl, rfl⟩
         go_wp2_with (go_at_call 15; refine (Known_any _).mono ?_; rintro e w' ⟨rfl, n, rfl⟩)
         go_ret
         exact ⟨rfl, _, rfl⟩)
    | (obtain ⟨m, hm⟩ : ∃ m, a - b = m := ⟨_, rfl⟩
       have g := (fitB_iff _).1 Hfine.out
       rw [hm] at g
       obtain ⟨m1, m2⟩ := g
       have m3 : m + b ≤ a := by omega
       have m4 : a ≤ m + b := by omega
       have Hm := Lib.hid hm
       clear hm
       refine (Sub_yes _ a1 a2 b1 b2 Hm.out m1 m2).mono ?_; rintro e w' ⟨rfl, rfl⟩
       rcases last with b3 | ⟨q, f, b3, hq, hf, g1, g2, g3, g4, g5, g6, g7, g8⟩
       · go_wp2_with (go_at_call 15; refine (Known_any _).mono ?_; rintro e w' ⟨rfl, n, rfl⟩)
         go_ret
         exact ⟨rfl, n, rfl⟩
       · go_wp2_with fail
         refine (Share_yes (q := q) _ a0 a2 (by omega) (by omega) b3 b2 hq.out (by omega) (by omega)).mono ?_; rintro e w' ⟨rfl, m, rfl⟩
         go_wp2_with fail
         refine (Floor_yes (s := f) _ a1 a2 b3 b2 hf.out (by omega) (by omega)).mono ?_; rintro e w' ⟨rfl, rfl⟩
         go_wp2_with (go_at_call 15; refine (Known_any _).mono ?_; rintro e w' ⟨rfl, n, rfl⟩)
         go_ret
         exact ⟨rfl, _, rfl⟩)
end Go.Proofs.Ytaoicdpjnlcngaa
