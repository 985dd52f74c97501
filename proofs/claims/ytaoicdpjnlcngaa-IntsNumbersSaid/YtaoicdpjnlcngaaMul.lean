/-
  The contracts of Mul (package ints and the document's own), of math/bits.Mul64 and Add64 as the walks want them.
-/
import Derived.Test.YtaoicdpjnlcngaaLeaf2
import Derived.Test.YtaoicdpjnlcngaaMulPlain
import Derived.Test.YtaoicdpjnlcngaaShelf
import Derived.Laws.Externs
namespace Go.Proofs.Ytaoicdpjnlcngaa
open Go.RowKit
set_option linter.unusedVariables false

/-- math/bits.Mul64, its two halves under names. -/
theorem Mul64_to (x y hi lo : Int) (w : World) (x1 : 0 ≤ x) (x2 : x < 18446744073709551616) (y1 : 0 ≤ y) (y2 : y < 18446744073709551616) (h : hi * 18446744073709551616 + lo = x * y) (l1 : 0 ≤ lo) (l2 : lo < 18446744073709551616) :
    Calls Try.prog 24 #[.int .u64 x, .int .u64 y] w fun e w' => e = .returned (.tuple #[.int .u64 hi, .int .u64 lo]) ∧ w = w' := by
  obtain ⟨x, rfl⟩ := Int.eq_ofNat_of_zero_le x1
  obtain ⟨y, rfl⟩ := Int.eq_ofNat_of_zero_le y1
  have hp : ((x * y : Nat) : Int) = (x : Int) * (y : Int) := Int.natCast_mul x y
  have e1 : ((x * y / 18446744073709551616 : Nat) : Int) = hi := by omega
  have e2 : ((x * y % 18446744073709551616 : Nat) : Int) = lo := by omega
  have c := Try.bits_Mul64 x y (by omega) (by omega) w
  rw [e1, e2] at c
  exact c.mono fun e w' h => ⟨h.1, h.2.symm⟩

/-- math/bits.Add64. -/
theorem Add64_to (x y c : Int) (x1 : 0 ≤ x) (y1 : 0 ≤ y) (c1 : 0 ≤ c) (c2 : c ≤ 1) (w : World) : (callFunc 27 #[.int .u64 x, .int .u64 y, .int .u64 c]).run Try.prog w =
    .ok (.value (.tuple #[.int .u64 ((x + y + c) % 18446744073709551616), .int .u64 ((x + y + c) / 18446744073709551616)])) w := by
  rw [run_callFunc_extern Try.func27 (by kernel_rfl) (by kernel_rfl) (by kernel_rfl) (e := add64Entry) (by kernel_rfl), run_add64 x y c x1 y1 c1 c2]
  rfl

theorem Size_to (a x : Int) (w : World) (a1 : -9223372036854775808 ≤ a) (a2 : a ≤ 9223372036854775807) (hx : x = a.natAbs) :
    Calls Try.prog 29 #[.int .i64 a] w fun e w' => e = .returned (.int .u64 x) ∧ w = w' := by
  rw [hx]; exact Size_any a w a1 a2

set_option maxHeartbeats 400000 in
theorem Mul_any (a b : Int) (w : World) (a1 : -9223372036854775808 ≤ a) (a2 : a ≤ 9223372036854775807) (b1 : -9223372036854775808 ≤ b) (b2 : b ≤ 9223372036854775807) :
    Calls Try.prog 18 #[.int .i64 a, .int .i64 b] w fun e w' => e = .returned (.tuple #[.int .i64 (pick (a * b)), .bool (fitB (a * b))]) ∧ w = w' := by
  obtain ⟨x, hx⟩ : ∃ x : Int, x = a.natAbs := ⟨_, rfl⟩
  obtain ⟨y, hy⟩ : ∃ y : Int, y = b.natAbs := ⟨_, rfl⟩
  have x1 : 0 ≤ x := by omega
  have y1 : 0 ≤ y := by omega
  have x2 : x < 18446744073709551616 := by omega
  have y2 : y < 18446744073709551616 := by omega
  have Sa := fun w => Size_to a x w a1 a2 hx
  have Sb := fun w => Size_to b y w b1 b2 hy
  obtain ⟨hi, lo, hp, p1, p2, p3⟩ := parts x y x1 y1
  have M := fun w => Mul64_to x y hi lo w x1 x2 y1 y2 hp p2 p3
  have hb : hi < 18446744073709551616 := parts_hi (m := 9223372036854775808) (n := 9223372036854775808) hp x1 y1 (by omega) (by omega) (by omega) p2
  have Sa := Lib.hid Sa; have Sb := Lib.hid Sb; have M := Lib.hid M
  obtain ⟨da, hda⟩ : ∃ d : Bool, decide (a < 0) = d := ⟨_, rfl⟩
  obtain ⟨db, hdb⟩ : ∃ d : Bool, decide (b < 0) = d := ⟨_, rfl⟩
  cases da <;> cases db
  all_goals
    have ha := hda
    have hb' := hdb
    simp only [decide_eq_true_eq, decide_eq_false_iff_not] at ha hb'
  all_goals
    first
    | (rw [mul_same (x := x) (y := y) (by omega), ← hp])
    | (rw [mul_other (x := x) (y := y) (by omega), ← hp])
  all_goals
    by_cases h0 : hi = 0
  all_goals
    first
    | (subst h0
       rw [Int.zero_mul, Int.zero_add]
       clear hx hy hp
       go_enter Try.func18, Try.ntmps18
       go_wp2_with fail
       refine (Sa.out _).mono ?_; rintro e w' ⟨rfl, rfl⟩
       go_wp2_with fail
       refine (Sb.out _).mono ?_; rintro e w' ⟨rfl, rfl⟩
       go_wp2_with fail
       refine (M.out _).mono ?_; rintro e w' ⟨rfl, rfl⟩
       go_wp2_with (first | (go_at_call 26; refine (Above_any _ _ p2 (by omega)).mono ?_; rintro e w' ⟨rfl, rfl⟩) | (go_at_call 30; refine (Below_any _ _ p2 (by omega)).mono ?_; rintro e w' ⟨rfl, rfl⟩))
       go_ret2
       exact ⟨rfl, rfl⟩)
    | (refine (show Calls Try.prog 18 #[.int .i64 a, .int .i64 b] w (fun e w' => e = .returned (.tuple #[.int .i64 0, .bool false]) ∧ w = w') from ?_).mono (fun e w' h => ⟨h.1.trans (ret2_no (fitB_no (by omega))), h.2⟩)
       have h1 : 1 ≤ hi := by omega
       clear hx hy hp h0
       go_enter Try.func18, Try.ntmps18
       go_wp2_with fail
       refine (Sa.out _).mono ?_; rintro e w' ⟨rfl, rfl⟩
       go_wp2_with fail
       refine (Sb.out _).mono ?_; rintro e w' ⟨rfl, rfl⟩
       go_wp2_with fail
       refine (M.out _).mono ?_; rintro e w' ⟨rfl, rfl⟩
       go_wp2
       go_ret2
       exact ⟨rfl, rfl⟩)

set_option maxHeartbeats 400000 in
theorem RefMul_any (a b : Int) (w : World) (a1 : -9223372036854775808 ≤ a) (a2 : a ≤ 9223372036854775807) (b1 : -9223372036854775808 ≤ b) (b2 : b ≤ 9223372036854775807) :
    Calls Try.prog 22 #[.int .i64 a, .int .i64 b] w fun e w' => e = .returned (.tuple #[.int .i64 (pick (a * b)), .bool (fitB (a * b))]) ∧ w = w' := by
  by_cases ha : a = 0
  · subst ha
    rw [Int.zero_mul]
    go_enter Try.func22, Try.ntmps22
    go_wp2
    go_ret2
    exact ⟨rfl, rfl⟩
  by_cases hb : b = 0
  · subst hb
    rw [Int.mul_zero]
    have A := Lib.hid ha
    by_cases h : 0 < a
    all_goals
      have h' : a < 0 ∨ 0 < a := by omega
      clear ha h'
      go_enter Try.func22, Try.ntmps22
      go_wp2
      go_ret2
      exact ⟨rfl, rfl⟩
  obtain ⟨d1, h1⟩ : ∃ d : Bool, (a == -1) = d := ⟨_, rfl⟩
  obtain ⟨d2, h2⟩ : ∃ d : Bool, (b == -9223372036854775808) = d := ⟨_, rfl⟩
  obtain ⟨d3, h3⟩ : ∃ d : Bool, (b == -1) = d := ⟨_, rfl⟩
  obtain ⟨d4, h4⟩ : ∃ d : Bool, (a == -9223372036854775808) = d := ⟨_, rfl⟩
  obtain ⟨d5, h5⟩ : ∃ d : Bool, fitB (a * b) = d := ⟨_, rfl⟩
  have f1 : (a == 0) = false := by simpa using ha
  have f2 : (b == 0) = false := by simpa using hb
  by_cases hx : (a = -1 ∧ b = -9223372036854775808) ∨ (b = -1 ∧ a = -9223372036854775808)
  · have e5 : fitB (a * b) = false := fitB_no (by rcases hx with ⟨rfl, rfl⟩ | ⟨rfl, rfl⟩ <;> omega)
    refine (show Calls Try.prog 22 #[.int .i64 a, .int .i64 b] w (fun e w' => e = .returned (.tuple #[.int .i64 0, .bool false]) ∧ w = w') from ?_).mono (fun e w' h => ⟨h.1.trans (ret2_no e5), h.2⟩)
    clear h1 h2 h3 h4 h5 e5 ha hb f1 f2
    rcases hx with ⟨rfl, rfl⟩ | ⟨rfl, rfl⟩
    all_goals
      go_enter Try.func22, Try.ntmps22
      go_wp2
      go_ret2
      exact ⟨rfl, rfl⟩
  cases d5
  · have hq := quo_no hb b1 b2 (by omega) a1 a2 h5
    refine (show Calls Try.prog 22 #[.int .i64 a, .int .i64 b] w (fun e w' => e = .returned (.tuple #[.int .i64 0, .bool false]) ∧ w = w') from ?_).mono (fun e w' h => ⟨h.1.trans (ret2_no h5), h.2⟩)
    clear h5
    cases d1 <;> cases d2 <;> cases d3 <;> cases d4
    all_goals first | (exfalso; simp only [beq_iff_eq, beq_eq_false_iff_ne] at h1 h2 h3 h4; omega) | skip
    all_goals
      clear hx
      go_enter Try.func22, Try.ntmps22
      go_wp2
      go_ret2
      exact ⟨rfl, rfl⟩
  · have hq := quo_yes hb a1 a2 h5
    refine (show Calls Try.prog 22 #[.int .i64 a, .int .i64 b] w (fun e w' => e = .returned (.tuple #[.int .i64 (wrap64 (a * b)), .bool true]) ∧ w = w') from ?_).mono (fun e w' h => ⟨h.1.trans ((ret2 (IntWalk.wrap64_in _ ((fitB_iff _).1 h5)) rfl).trans (ret2_yes h5)), h.2⟩)
    clear h5
    cases d1 <;> cases d2 <;> cases d3 <;> cases d4
    all_goals first | (exfalso; simp only [beq_iff_eq, beq_eq_false_iff_ne] at h1 h2 h3 h4; omega) | skip
    all_goals
      clear hx
      go_enter Try.func22, Try.ntmps22
      go_wp2
      go_ret2
      exact ⟨rfl, rfl⟩
end Go.Proofs.Ytaoicdpjnlcngaa
