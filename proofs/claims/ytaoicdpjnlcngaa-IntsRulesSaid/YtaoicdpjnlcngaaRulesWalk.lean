/-
  The walk of the law IntsRules.
-/
import Derived.Test.YtaoicdpjnlcngaaYes
namespace Go.Proofs.Ytaoicdpjnlcngaa
open Go.RowKit
set_option linter.unusedVariables false

set_option maxRecDepth 100000 in
set_option maxHeartbeats 4000000 in
theorem Rules_more (a b : Int) (w : World) (a1 : -9223372036854775808 ≤ a) (a2 : a ≤ 9223372036854775807) (b1 : -9223372036854775808 ≤ b) (b2 : b ≤ 9223372036854775807) (hz : a ≠ 0) :
    Calls Try.prog 5 #[.int .i64 a, .int .i64 b] w (Drawn (.returned (.bool true)) w) := by
  obtain ⟨ok, hok⟩ : ∃ d, fitB (a + b) = d := ⟨_, rfl⟩
  obtain ⟨fine, hfine⟩ : ∃ d, fitB (a * b) = d := ⟨_, rfl⟩
  have Hok := Lib.hid hok
  have Hfine := Lib.hid hfine
  clear hok hfine
  have hz' : (a != 0) = true := by simpa using hz
  have Hz := Lib.hid hz
  clear hz
  have hcomm := Lib.hid (Int.mul_comm b a)
  have hcomm' := Lib.hid (Int.add_comm b a)
  go_enter Try.func5, Try.ntmps5
  go_wp2_with fail
  cases ok
  case' false =>
    refine (Add_no _ a1 a2 b1 b2 Hok.out).mono ?_; rintro e w' ⟨rfl, rfl⟩
    go_wp2_with fail
  case' true =>
    obtain ⟨s, hs⟩ : ∃ s, a + b = s := ⟨_, rfl⟩
    have hf := (fitB_iff _).1 Hok.out
    rw [hs] at hf
    obtain ⟨s1, s2⟩ := hf
    have Hs := Lib.hid hs
    clear hs
    refine (Add_yes _ a1 a2 b1 b2 Hs.out s1 s2).mono ?_; rintro e w' ⟨rfl, rfl⟩
    go_wp2_with fail
    refine (Sub_yes _ s1 s2 b1 b2 (by have := Hs.out; omega) a1 a2).mono ?_; rintro e w' ⟨rfl, rfl⟩
    go_wp2_with fail
    refine (Add_yes _ b1 b2 a1 a2 (by have := Hs.out; omega) s1 s2).mono ?_; rintro e w' ⟨rfl, rfl⟩
    go_wp2_with fail
  all_goals
    cases fine
  all_goals
    first
    | (refine (Mul_no _ a1 a2 b1 b2 Hfine.out).mono ?_; rintro e w' ⟨rfl, rfl⟩
       go_wp2_with fail
       refine (Mul_no _ b1 b2 a1 a2 (by rw [hcomm.out]; exact Hfine.out)).mono ?_; rintro e w' ⟨rfl, rfl⟩
       go_wp2_with fail)
    | (obtain ⟨p, hp⟩ : ∃ p, a * b = p := ⟨_, rfl⟩
       have hf := (fitB_iff _).1 Hfine.out
       rw [hp] at hf
       obtain ⟨p1, p2⟩ := hf
       have Hp := Lib.hid hp
       clear hp
       refine (Mul_yes _ a1 a2 b1 b2 Hp.out p1 p2).mono ?_; rintro e w' ⟨rfl, rfl⟩
       go_wp2_with fail
       refine (Mul_yes _ b1 b2 a1 a2 (by rw [hcomm.out]; exact Hp.out) p1 p2).mono ?_; rintro e w' ⟨rfl, rfl⟩
       have hq := div_back (a := a) (b := b) (p := p) Hz.out b1 b2 Hp.out
       go_wp2_with fail)
  all_goals
    by_cases hb : b < 1
  all_goals
    first
    | (refine (Floor_bad _ _ _ hb).mono ?_; rintro e w' ⟨rfl, rfl⟩
       go_wp2_with (go_at_call 15; refine (Known_any _).mono ?_; rintro e w' ⟨rfl, n, rfl⟩)
       go_ret
       exact ⟨rfl, n, rfl⟩)
    | skip
  all_goals
    have hb1 : 1 ≤ b := by omega
    clear hb
    obtain ⟨told, ht⟩ : ∃ d, fitB (a - a % b) = d := ⟨_, rfl⟩
    have Ht := Lib.hid ht
    clear ht
    have Hr1 := Lib.hid (Int.emod_nonneg a (b := b) (by omega))
    have Hr2 := Lib.hid (Int.emod_lt_of_pos a (b := b) (by omega))
    have Hr3 := Lib.hid (floor_mul (a := a) (b := b) rfl)
    cases told
  all_goals
    first
    | (have ha : a < 0 := floor_low hb1 a2 Ht.out
       refine (Floor_no _ a1 a2 hb1 b2 Ht.out).mono ?_; rintro e w' ⟨rfl, rfl⟩
       go_wp2_with (go_at_call 15; refine (Known_any _).mono ?_; rintro e w' ⟨rfl, n, rfl⟩)
       go_ret
       exact ⟨rfl, n, rfl⟩)
    | (obtain ⟨f, hf⟩ : ∃ f, a - a % b = f := ⟨_, rfl⟩
       have hx := (fitB_iff _).1 Ht.out
       have m := Hr3.out
       have n1 := Hr1.out
       have n2 := Hr2.out
       rw [hf] at hx m
       obtain ⟨f1, f2⟩ := hx
       obtain ⟨m1, m2⟩ := m
       have f3 : f ≤ a := by omega
       have f4 : a - f < b := by omega
       have Hf := Lib.hid hf
       clear hf n1 n2
       refine (Floor_yes _ a1 a2 hb1 b2 Hf.out f1 f2).mono ?_; rintro e w' ⟨rfl, rfl⟩
       go_wp2_with (go_at_call 15; refine (Known_any _).mono ?_; rintro e w' ⟨rfl, n, rfl⟩)
       go_ret
       exact ⟨rfl, n, rfl⟩)
end Go.Proofs.Ytaoicdpjnlcngaa
