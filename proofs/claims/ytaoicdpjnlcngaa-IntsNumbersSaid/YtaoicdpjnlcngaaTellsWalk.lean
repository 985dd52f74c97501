/-
  The walk of the law IntsTells.
-/
import Derived.Test.YtaoicdpjnlcngaaKnown
import Derived.Test.YtaoicdpjnlcngaaRefSum
namespace Go.Proofs.Ytaoicdpjnlcngaa
open Go.RowKit
set_option linter.unusedVariables false

theorem Holds.drewN {w : World} {A : Option Addr} {n : Nat} {xs : List Int} (h : Holds w A n xs) (k : Nat) : Holds (w.drewN k) A n xs := h

theorem Share_all (a b c : Int) (w : World) (a1 : -9223372036854775808 ≤ a) (a2 : a ≤ 9223372036854775807) (b1 : -9223372036854775808 ≤ b) (b2 : b ≤ 9223372036854775807) (c1 : -9223372036854775808 ≤ c) (c2 : c ≤ 9223372036854775807) :
    ∃ (q : Int) (ok : Bool), (∀ w : World, Calls Try.prog 11 #[.int .i64 a, .int .i64 b, .int .i64 c] w (Drawn (.returned (.tuple #[.int .i64 q, .bool ok])) w)) ∧
      ∀ w : World, Calls Try.prog 12 #[.int .i64 a, .int .i64 b, .int .i64 c] w fun e w' => e = .returned (.tuple #[.int .i64 q, .bool ok]) ∧ w = w' := by
  by_cases h : a < 0 ∨ b < 0 ∨ c < 1
  · exact ⟨0, false, fun w => (Share_bad a b c w h).mono fun e w' h => ⟨h.1, 0, h.2.symm⟩, fun w => RefShare_bad a b c w h⟩
  · exact ⟨_, _, fun w => Share_any a b c w (by omega) a2 (by omega) b2 (by omega) c2, fun w => RefShare_any a b c w (by omega) a2 (by omega) b2 (by omega) c2⟩

set_option maxRecDepth 100000 in
set_option maxHeartbeats 1600000 in
theorem Tells_walk (a b c : Int) (A : Option Addr) (n cap : Nat) (xs : List Int) (w : World) (a1 : -9223372036854775808 ≤ a) (a2 : a ≤ 9223372036854775807) (b1 : -9223372036854775808 ≤ b) (b2 : b ≤ 9223372036854775807)
    (c1 : -9223372036854775808 ≤ c) (c2 : c ≤ 9223372036854775807) (n1 : n ≤ cap) (n2 : cap ≤ 9223372036854775807) (h : Hid (Holds w A n xs)) :
    Calls Try.prog 4 #[.int .i64 a, .int .i64 b, .int .i64 c, .slice A n cap] w (Drawn (.returned (.bool true)) w) := by
  obtain ⟨q, ok, hs⟩ := Share_all a b c w a1 a2 b1 b2 c1 c2
  have Hs := Lib.hid hs
  clear hs
  obtain ⟨s, hsum⟩ : ∃ s, pick (sumL (xs.take 100)) = s := ⟨_, rfl⟩
  by_cases big : 100 < n
  · have H : ∀ k, Hid (Holds (w.drewN k) A 100 (xs.take 100)) := fun k => Lib.hid ⟨by rw [List.length_take, h.out.1]; omega, fun x hx => h.out.2.1 x (take_mem hx), fun _ => by
      obtain ⟨bl, off, e, hc⟩ := h.out.2.2 (by omega)
      refine ⟨bl, off, e, fun k hk => ?_⟩
      have := hc k (by omega)
      rw [show (xs.take 100).getD k 0 = xs.getD k 0 by simp [List.getD, hk]]
      exact this⟩
    have H2 := Lib.hid H
    clear H
    go_enter Try.func4, Try.ntmps4
    go_wp2_with fail
    refine (Hs.out.1 _).mono ?_; rintro e w' ⟨rfl, n, rfl⟩
    go_wp2_with fail
    refine (Hs.out.2 _).mono ?_; rintro e w' ⟨rfl, rfl⟩
    go_wp2_with fail
    refine (Sum_any _ _ _ (xs.take 100) _ (by omega) (H2.out _)).mono ?_; rintro e w' ⟨rfl, rfl⟩
    go_wp2_with fail
    refine (RefSum_any _ _ _ (xs.take 100) _ (by omega) (H2.out _)).mono ?_; rintro e w' ⟨rfl, rfl⟩
    go_wp2_with fail
    refine (Same_any _ _ _ a1 a2 b1 b2).mono ?_; rintro e w' ⟨rfl, rfl⟩
    go_wp2_with fail
    refine (Same_any _ _ _ b1 b2 c1 c2).mono ?_; rintro e w' ⟨rfl, rfl⟩
    go_wp2_with (go_at_call 15; refine (Known_any _).mono ?_; rintro e w' ⟨rfl, n5, rfl⟩)
    go_ret
    exact ⟨rfl, _, rfl⟩
  · have H2 := Lib.hid (fun k => Lib.hid (h.out.drewN k))
    go_enter Try.func4, Try.ntmps4
    go_wp2_with fail
    refine (Hs.out.1 _).mono ?_; rintro e w' ⟨rfl, n, rfl⟩
    go_wp2_with fail
    refine (Hs.out.2 _).mono ?_; rintro e w' ⟨rfl, rfl⟩
    go_wp2_with fail
    refine (Sum_any _ _ _ xs _ (by omega) (H2.out _)).mono ?_; rintro e w' ⟨rfl, rfl⟩
    go_wp2_with fail
    refine (RefSum_any _ _ _ xs _ (by omega) (H2.out _)).mono ?_; rintro e w' ⟨rfl, rfl⟩
    go_wp2_with fail
    refine (Same_any _ _ _ a1 a2 b1 b2).mono ?_; rintro e w' ⟨rfl, rfl⟩
    go_wp2_with fail
    refine (Same_any _ _ _ b1 b2 c1 c2).mono ?_; rintro e w' ⟨rfl, rfl⟩
    go_wp2_with (go_at_call 15; refine (Known_any _).mono ?_; rintro e w' ⟨rfl, n5, rfl⟩)
    go_ret
    exact ⟨rfl, _, rfl⟩
end Go.Proofs.Ytaoicdpjnlcngaa
