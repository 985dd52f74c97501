/-
  What the law RefdataLimits leans on: a product of few or many months, and what Check answers of it and of its neighbours.
-/
import Derived.Test.YtbigmbpclikenaaRdCheck
import Derived.Test.YtbigmbpclikenaaKeepProduct
import Derived.Test.YtbigmbpclikenaaRdCount
namespace Go.Proofs.Ytbigmbpclikenaa
open Go.RowKit
set_option linter.unusedVariables false
set_option linter.unusedSimpArgs false

/-- The months: each beyond the one before it. -/
def lastM (Q : Nat → Int) : Nat → Int
  | 0 => -1
  | i + 1 => lastM Q i + 1 + (withinN (Q i) 190 : Int)
theorem lastM_in (Q : Nat → Int) : ∀ i : Nat, (i : Int) - 1 ≤ lastM Q i ∧ lastM Q i ≤ 191 * (i : Int) - 1
  | 0 => by unfold lastM; omega
  | i + 1 => by
    have h := lastM_in Q i
    have := withinN_le (Q i) 190
    unfold lastM; omega
theorem lastM_up (Q : Nat → Int) (i : Nat) : lastM Q i < lastM Q (i + 1) := by
  show lastM Q i < lastM Q i + 1 + (withinN (Q i) 190 : Int)
  omega
structure Lim (T lo hg : Int) : Prop where
  T1 : 1 ≤ T
  T2 : T ≤ 1000
  m1 : lo.tmod T = 0
  m2 : (lo + hg).tmod T = 0
  m3 : hg.tmod T = 0
  m4 : (hg + T).tmod T = 0
  m5 : (lo + hg + T).tmod T = 0
  b1 : -900000 ≤ lo
  b2 : lo ≤ 0
  b3 : 1 ≤ hg
  b4 : hg ≤ 91000
theorem mul3 (T X Y : Int) : T * X + T * Y + T = T * (X + Y + 1) := by rw [Int.mul_add T (X + Y) 1, Int.mul_add T X Y, Int.mul_one]
theorem lim_of (kt kl kw : Nat) (h1 : kt ≤ 999) (h2 : kl ≤ 900) (h3 : kw ≤ 90) : Lim (1 + (kt : Int)) ((1 + (kt : Int)) * -(kl : Int)) ((1 + (kt : Int)) * (1 + (kw : Int))) := by
  obtain ⟨T, eT⟩ : ∃ T, 1 + (kt : Int) = T := ⟨_, rfl⟩
  rw [eT]
  have T1 : 1 ≤ T := by omega
  have T2 : T ≤ 1000 := by omega
  have a1 : T * (-900) ≤ T * -(kl : Int) := Int.mul_le_mul_of_nonneg_left (by omega) (by omega)
  have a2 : T * -(kl : Int) ≤ T * 0 := Int.mul_le_mul_of_nonneg_left (by omega) (by omega)
  have a3 : T * 1 ≤ T * (1 + (kw : Int)) := Int.mul_le_mul_of_nonneg_left (by omega) (by omega)
  have a4 : T * (1 + (kw : Int)) ≤ T * 91 := Int.mul_le_mul_of_nonneg_left (by omega) (by omega)
  refine ⟨T1, T2, Int.mul_tmod_right T _, ?_, Int.mul_tmod_right T _, ?_, ?_, by omega, by omega, by omega, by omega⟩
  · rw [← Int.mul_add]; exact Int.mul_tmod_right T _
  · rw [show T * (1 + (kw : Int)) + T = T * (1 + (kw : Int) + 1) by rw [Int.mul_add T (1 + (kw : Int)) 1, Int.mul_one]]; exact Int.mul_tmod_right T _
  · rw [mul3]; exact Int.mul_tmod_right T _
def limP (A1 : Option Addr) (c1 : Nat) (A2 : Option Addr) (c2 n : Nat) (Q : Nat → Int) (T lo hg wd : Int) (R : Nat → Int) : PD :=
  ⟨[67, 76], A1, n, c1, T, lo, lo + hg, wd, 3, 4, 2, 40, A2, n, c2, fun j => lastM Q (j + 1), R⟩
theorem lim_code : prodB [67, 76] = true := by decide
theorem lim_few (A1 : Option Addr) (c1 : Nat) (A2 : Option Addr) (c2 n : Nat) (Q : Nat → Int) (T lo hg wd : Int) (R : Nat → Int) (h : n < 2) : chk (limP A1 c1 A2 c2 n Q T lo hg wd R) = 1 := by
  unfold chk
  refine (if_neg (show ¬ prodB [67, 76] = false by rw [lim_code]; decide)).trans ?_
  unfold chk1
  exact if_pos (.inl h)
theorem lim_three (A1 : Option Addr) (c1 : Nat) (A2 : Option Addr) (c2 n : Nat) (Q : Nat → Int) (T lo hg wd : Int) (R : Nat → Int) (h1 : 2 ≤ n) (h2 : n ≤ 6) (hl : Lim T lo hg) (hw : wd.tmod T = 0) (hR : ∀ i, i < n → (R i).tmod T = 0) :
    chk (limP A1 c1 A2 c2 n Q T lo hg wd R) = chk5 (limP A1 c1 A2 c2 n Q T lo hg wd R) := by
  have := hl.T1
  have := hl.T2
  unfold chk
  refine (if_neg (show ¬ prodB [67, 76] = false by rw [lim_code]; decide)).trans ?_
  unfold chk1
  refine (if_neg (show ¬ (n < 2 ∨ 6 < n) by omega)).trans ?_
  unfold chk2
  refine (if_pos (show ∀ i, i < n → okM (fun j => lastM Q (j + 1)) i from fun i hi => by
    have a := lastM_in Q (i + 1)
    refine ⟨by show 0 ≤ lastM Q (i + 1); omega, by show lastM Q (i + 1) ≤ 1199; omega, fun h0 => ?_⟩
    show lastM Q (i - 1 + 1) < lastM Q (i + 1)
    rw [show i - 1 + 1 = i by omega]
    exact lastM_up Q i)).trans ?_
  unfold chk3
  refine (if_neg (show ¬ (T < 1 ∨ 1000 < T ∨ lo.tmod T ≠ 0 ∨ (lo + hg).tmod T ≠ 0 ∨ wd.tmod T ≠ 0) by rw [hl.m1, hl.m2, hw]; omega)).trans ?_
  unfold chk4
  exact if_pos hR
theorem lim_ok (A1 : Option Addr) (c1 : Nat) (A2 : Option Addr) (c2 n : Nat) (Q : Nat → Int) (T lo hg : Int) (h1 : 2 ≤ n) (h2 : n ≤ 6) (hl : Lim T lo hg) : chk (limP A1 c1 A2 c2 n Q T lo hg hg (fun _ => lo)) = 0 := by
  have := hl.b1
  have := hl.b2
  have := hl.b3
  have := hl.b4
  rw [lim_three A1 c1 A2 c2 n Q T lo hg hg _ h1 h2 hl hl.m3 (fun i _ => hl.m1)]
  unfold chk5
  refine (if_neg (show ¬ (lo < -1000000 ∨ lo + hg ≤ lo ∨ 1000000 < lo + hg ∨ hg < 0 ∨ lo + hg - lo < hg) by omega)).trans ?_
  unfold chk6
  refine (if_neg (show ¬ n ≠ n by omega)).trans ?_
  unfold chk7
  refine (if_pos (show ∀ i, i < n → lo ≤ (fun _ : Nat => lo) i ∧ (fun _ : Nat => lo) i ≤ lo + hg from fun i _ => ⟨Int.le_refl lo, by show lo ≤ lo + hg; omega⟩)).trans ?_
  unfold chk8
  refine (if_neg (show ¬ ((3 : Int) < 1 ∨ (3 : Int) < 3) by omega)).trans ?_
  unfold chk9
  exact if_neg (show ¬ ((4 : Int) < 0 ∨ (1000000 : Int) < 4 ∨ (2 : Int) < 1 ∨ (1000 : Int) < 2 ∨ (40 : Int) < 0 ∨ (100 : Int) < 40) by omega)
theorem lim_wide (A1 : Option Addr) (c1 : Nat) (A2 : Option Addr) (c2 n : Nat) (Q : Nat → Int) (T lo hg : Int) (h1 : 2 ≤ n) (h2 : n ≤ 6) (hl : Lim T lo hg) : chk (limP A1 c1 A2 c2 n Q T lo hg (hg + T) (fun _ => lo)) = 23 := by
  have := hl.T1
  rw [lim_three A1 c1 A2 c2 n Q T lo hg (hg + T) _ h1 h2 hl hl.m4 (fun i _ => hl.m1)]
  unfold chk5
  exact if_pos (show lo < -1000000 ∨ lo + hg ≤ lo ∨ 1000000 < lo + hg ∨ hg + T < 0 ∨ lo + hg - lo < hg + T by omega)
theorem lim_settle (A1 : Option Addr) (c1 : Nat) (A2 : Option Addr) (c2 n : Nat) (Q : Nat → Int) (T lo hg : Int) (h1 : 2 ≤ n) (h2 : n ≤ 6) (hl : Lim T lo hg) : chk (limP A1 c1 A2 c2 n Q T lo hg hg (fun j => if j = 0 then lo + hg + T else lo)) = 1 := by
  have := hl.b1
  have := hl.b2
  have := hl.b3
  have := hl.b4
  have := hl.T1
  rw [lim_three A1 c1 A2 c2 n Q T lo hg hg _ h1 h2 hl hl.m3 (fun i _ => by
    show (if i = 0 then lo + hg + T else lo).tmod T = 0
    by_cases c : i = 0
    · rw [if_pos c]; exact hl.m5
    · rw [if_neg c]; exact hl.m1)]
  unfold chk5
  refine (if_neg (show ¬ (lo < -1000000 ∨ lo + hg ≤ lo ∨ 1000000 < lo + hg ∨ hg < 0 ∨ lo + hg - lo < hg) by omega)).trans ?_
  unfold chk6
  refine (if_neg (show ¬ n ≠ n by omega)).trans ?_
  unfold chk7
  exact if_neg (show ¬ (∀ i, i < n → lo ≤ (if i = 0 then lo + hg + T else lo) ∧ (if i = 0 then lo + hg + T else lo) ≤ lo + hg) from fun h => by
    have := (h 0 (by omega)).2
    rw [if_pos rfl] at this
    omega)
end Go.Proofs.Ytbigmbpclikenaa
