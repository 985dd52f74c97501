/-
  Orders compared: '!=' of two, and Same of two lists; levels compared: '=='.
-/
import Derived.Test.YtlknlicokacoiaaBkTop
import Derived.Laws.StructEq
namespace Go.Proofs.Ytlknlicokacoiaa
open Go.RowKit
set_option linter.unusedVariables false
set_option linter.unusedSimpArgs false

theorem or_in (i s p n i' s' p' n' : Int) (t t' : Bool) (w : World) :
    (Op.equalIn 10000 40 (.agg #[.int .i64 i, .int .i64 s, .int .i64 p, .int .i64 n, .bool t]) (.agg #[.int .i64 i', .int .i64 s', .int .i64 p', .int .i64 n', .bool t'])).run Try.prog w = .ok ((i == i') && (s == s') && (p == p') && (n == n') && (t == t')) w := by
  have u1 := Try.underlying3
  have u2 := Try.underlying2
  have u3 := Try.underlying4
  have hS : Try.prog.underlying 40 = some (.struct (Try.prog.fieldsOf 40)) := by kernel_rfl
  have hp : Try.prog.stoodInHeld 40 = false := by kernel_rfl
  rw [show (10000 : Nat) = 9999 + 1 from rfl, run_equalIn_agg w 9999 40 _ _ hS hp]
  simp only [Program.fieldsOf, Try.underlying40]
  go_simp
  by_cases hi : i = i'
  case neg => rw [if_neg hi]; simp [hi]
  rw [if_pos hi]
  by_cases hs : s = s'
  case neg => rw [if_neg hs]; simp [hs]
  rw [if_pos hs]
  by_cases hq : p = p'
  case neg => rw [if_neg hq]; simp [hq]
  rw [if_pos hq]
  by_cases hn : n = n'
  case neg => rw [if_neg hn]; simp [hn]
  rw [if_pos hn]
  by_cases ht : t = t'
  case neg => rw [if_neg ht]; simp [ht]
  rw [if_pos ht]
  subst hi hs hq hn ht
  simp
theorem or_neq_self (i s p n : Int) (t : Bool) (w : World) : (binOp .neq 40 (.agg #[.int .i64 i, .int .i64 s, .int .i64 p, .int .i64 n, .bool t]) (.agg #[.int .i64 i, .int .i64 s, .int .i64 p, .int .i64 n, .bool t])).run Try.prog w = .ok (.bool false) w := by
  rw [run_neq_struct, or_in]
  simp [Result.andThen]
theorem lv_in (p n c p' n' c' : Int) (w : World) :
    (Op.equalIn 10000 47 (.agg #[.int .i64 p, .int .i64 n, .int .i64 c]) (.agg #[.int .i64 p', .int .i64 n', .int .i64 c'])).run Try.prog w = .ok ((p == p') && (n == n') && (c == c')) w := by
  have u2 := Try.underlying2
  have hS : Try.prog.underlying 47 = some (.struct (Try.prog.fieldsOf 47)) := by kernel_rfl
  have hp : Try.prog.stoodInHeld 47 = false := by kernel_rfl
  rw [show (10000 : Nat) = 9999 + 1 from rfl, run_equalIn_agg w 9999 47 _ _ hS hp]
  simp only [Program.fieldsOf, Try.underlying47]
  go_simp
  by_cases hq : p = p'
  case neg => rw [if_neg hq]; simp [hq]
  rw [if_pos hq]
  by_cases hn : n = n'
  case neg => rw [if_neg hn]; simp [hn]
  rw [if_pos hn]
  by_cases ht : c = c'
  case neg => rw [if_neg ht]; simp [ht]
  rw [if_pos ht]
  subst hq hn ht
  simp
theorem lv_eql_self (p n c : Int) (w : World) : (binOp .eql 47 (.agg #[.int .i64 p, .int .i64 n, .int .i64 c]) (.agg #[.int .i64 p, .int .i64 n, .int .i64 c])).run Try.prog w = .ok (.bool true) w := by
  rw [run_eql_struct, lv_in]
  simp [Result.andThen]
set_option maxRecDepth 100000 in
set_option maxHeartbeats 3200000 in
theorem BSame_yes (A B : Option Addr) (n ca cb : Nat) (l : List Or) (w : World) (hn : n ≤ 2000000) (ha : n ≤ ca) (hb : n ≤ cb) (hA : Hid (HV fO w A n l)) (hB : Hid (HV fO w B n l)) :
    Calls Try.prog 23 #[.slice A n ca, .slice B n cb] w fun e w' => e = .returned (.bool true) ∧ ∃ q, w' = w.drewN q := by
  have d0 : ((n : Int) != (n : Int)) = false := by simp
  go_enter Try.func23, Try.ntmps23
  go_wp2_with fail
  go_loopw [5] (fun i wr => ∃ k : Nat, i = .int .i64 k ∧ k ≤ n ∧ ∃ q, wr = w.drewN q) (fun i _ => (n - intOf i).toNat)
  case atStart => exact ⟨0, rfl, by omega, 0, rfl⟩
  case round =>
    obtain ⟨k, rfl, hk, q, rfl⟩ := hrel
    by_cases hlt : k < n
    · have d1 : decide ((k : Int) < (n : Int)) = true := decide_eq_true (by omega)
      have d1' : decide (k < n) = true := decide_eq_true hlt
      have d3 : (k : Int) < (n : Int) := by omega
      obtain ⟨e, he⟩ : ∃ e, l[k]? = some e := ⟨_, List.getElem?_eq_getElem (by rw [hA.out.1]; exact hlt)⟩
      obtain ⟨ba, oa, rfl, c0, c1, c2, c3, c4⟩ := hA.out.atO he
      obtain ⟨bb, ob, rfl, e0, e1, e2, e3, e4⟩ := hB.out.atO he
      obtain ⟨i, s, p, x, t⟩ := e
      simp only at c0 c1 c2 c3 c4 e0 e1 e2 e3 e4
      have hne := or_neq_self i s p x t
      clear he
      go_wp2_with fail
      go_quiet (fail)
      go_wp2_with fail
      go_roundw
      case rel => exact ⟨k + 1, by go_num, by omega, _, rfl⟩
      case measure => simp [intOf]; omega
    · obtain rfl : k = n := by omega
      have d1 : decide ((k : Int) < (k : Int)) = false := by simp
      have d1' : decide (k < k) = false := by simp
      go_wp2_with fail
      go_ret
      exact ⟨rfl, q, rfl⟩
end Go.Proofs.Ytlknlicokacoiaa
