/-
  Contracts: isSide, better, place, rows, of book.
-/
import Derived.Test.YtlknlicokacoiaaBkMem
namespace Go.Proofs.Ytlknlicokacoiaa
open Go.RowKit
set_option linter.unusedVariables false
set_option linter.unusedSimpArgs false

def sideB (s : Int) : Bool := decide (s = 1 ∨ s = 2)
set_option maxRecDepth 100000 in
theorem IsSide_any (s : Int) (w : World) :
    Calls Try.prog 51 #[.int .i64 s] w fun e w' => e = .returned (.bool (sideB s)) ∧ w = w' := by
  by_cases h1 : s = 1
  · rw [show sideB s = true from decide_eq_true (.inl h1)]
    subst h1
    go_enter Try.func51, Try.ntmps51
    go_wp2
    go_ret
    exact ⟨rfl, rfl⟩
  · have d1 : (s == 1) = false := by simpa using h1
    by_cases h2 : s = 2
    · rw [show sideB s = true from decide_eq_true (.inr h2)]
      subst h2
      go_enter Try.func51, Try.ntmps51
      go_wp2
      go_ret
      exact ⟨rfl, rfl⟩
    · have d2 : (s == 2) = false := by simpa using h2
      rw [show sideB s = false from decide_eq_false (by omega)]
      go_enter Try.func51, Try.ntmps51
      go_wp2
      go_ret
      exact ⟨rfl, rfl⟩
set_option maxRecDepth 100000 in
theorem Better_any (s p q : Int) (w : World) :
    Calls Try.prog 52 #[.int .i64 s, .int .i64 p, .int .i64 q] w fun e w' => e = .returned (.bool (bet s p q)) ∧ w = w' := by
  by_cases h1 : s = 1
  · subst h1
    rw [bet_one]
    go_enter Try.func52, Try.ntmps52
    go_wp2
    go_ret
    exact ⟨rfl, rfl⟩
  · rw [bet_two _ _ h1]
    have d1 : (s == 1) = false := by simpa using h1
    go_enter Try.func52, Try.ntmps52
    go_wp2
    go_ret
    exact ⟨rfl, rfl⟩

/-- The place of a price among the rows of a side. -/
def placeN (s p : Int) : List (Int × Nat) → Nat
  | [] => 0
  | r :: R => if bet s r.1 p = true then placeN s p R + 1 else 0
def foundB (s p : Int) (R : List (Int × Nat)) : Bool := match R[placeN s p R]? with | none => false | some r => decide (r.1 = p)
theorem placeN_le (s p : Int) (R : List (Int × Nat)) : placeN s p R ≤ R.length := by
  induction R with
  | nil => exact Nat.le_refl _
  | cons r R ih => unfold placeN; split <;> simp <;> omega
theorem placeN_split (s p : Int) : ∀ R : List (Int × Nat), (∀ r ∈ R.take (placeN s p R), bet s r.1 p = true) ∧ ∀ r, R[placeN s p R]? = some r → bet s r.1 p = false := by
  intro R
  induction R with
  | nil => exact ⟨fun r hr => by simp at hr, fun r hr => by simp at hr⟩
  | cons r R ih =>
    unfold placeN
    split
    · rename_i h
      refine ⟨fun x hx => ?_, fun x hx => ih.2 x (by simpa using hx)⟩
      rw [List.take_succ_cons] at hx
      rcases List.mem_cons.1 hx with rfl | hx
      · exact h
      · exact ih.1 x hx
    · rename_i h
      refine ⟨fun x hx => by simp at hx, fun x hx => ?_⟩
      simp at hx
      subst hx
      simpa using h
theorem placeN_at (s p : Int) : ∀ (R : List (Int × Nat)) (k : Nat), (∀ r ∈ R.take k, bet s r.1 p = true) → k ≤ R.length → (∀ r, R[k]? = some r → bet s r.1 p = false) → placeN s p R = k := by
  intro R
  induction R with
  | nil => intro k _ hk _; have : k = 0 := by simpa using hk
           rw [this]; rfl
  | cons r R ih =>
    intro k h1 hk h2
    cases k with
    | zero =>
      unfold placeN
      rw [if_neg (by rw [h2 r rfl]; decide)]
    | succ k =>
      unfold placeN
      rw [if_pos (h1 r (by simp)), ih k (fun x hx => h1 x (by rw [List.take_succ_cons]; exact List.mem_cons_of_mem _ hx)) (by simpa using hk) (fun x hx => h2 x (by simpa using hx))]
theorem below_drewN0 {B : Nat} {a w : World} (h : Below B a w) (q : Nat) : Below B a (w.drewN q) := ⟨h.os, h.tape, h.output, h.size, h.block⟩
set_option maxRecDepth 100000 in
set_option maxHeartbeats 1000000 in
theorem Place_any (A : Option Addr) (n c : Nat) (s p : Int) (R : List (Int × Nat)) (w : World) (hv : Hid (HV fR w A n R)) (hn : n ≤ 1000000) :
    Calls Try.prog 36 #[.slice A n c, .int .i64 s, .int .i64 p] w fun e w' => e = .returned (.tuple #[.int .i64 (placeN s p R : Nat), .bool (foundB s p R)]) ∧ Below w.heap.size w w' := by
  have hl := Lib.hid hv.out.1
  have hle : placeN s p R ≤ n := by rw [← hl.out]; exact placeN_le s p R
  obtain ⟨hs1, hs2⟩ := placeN_split s p R
  replace hs1 := Lib.hid hs1
  replace hs2 := Lib.hid hs2
  have hF : Hid (foundB s p R = match R[placeN s p R]? with | none => false | some r => decide (r.1 = p)) := Lib.hid rfl
  obtain ⟨k, ek⟩ : ∃ k, placeN s p R = k := ⟨_, rfl⟩
  obtain ⟨f, ef⟩ : ∃ f, foundB s p R = f := ⟨_, rfl⟩
  rw [ek] at hle hs1 hs2 hF ⊢
  rw [ef] at hF ⊢
  clear ek ef
  go_enter Try.func36, Try.ntmps36
  go_wp2_with fail
  go_loop [8] (fun i => ∃ j : Nat, i = .int .i64 j ∧ j ≤ k) (fun i => (k - intOf i).toNat)
  case atStart => exact ⟨0, rfl, by omega⟩
  case round =>
    obtain ⟨j, rfl, hj⟩ := hrel
    by_cases hlt : j < k
    · obtain ⟨r, hr⟩ : ∃ r, R[j]? = some r := ⟨_, List.getElem?_eq_getElem (by rw [hl.out]; omega)⟩
      have hb := hs1.out r (List.mem_take_iff_getElem.2 ⟨j, by have := (List.getElem?_eq_some_iff.1 hr).1; omega, (List.getElem?_eq_some_iff.1 hr).2⟩)
      obtain ⟨b, off, rfl, c0, -⟩ := hv.out.atR hr
      obtain ⟨x, ex⟩ : ∃ x, r.1 = x := ⟨_, rfl⟩
      rw [ex] at c0 hb
      have H := Lib.hid (Better_any s x p w)
      rw [hb] at H
      have d1 : decide (j < n) = true := decide_eq_true (by omega)
      have d2 : j < n := by omega
      clear hr ex hb hF
      go_wp2_with fail
      refine H.out.mono ?_
      rintro e w' ⟨rfl, rfl⟩
      go_wp2_with fail
      go_round
      case rel => exact ⟨j + 1, by go_num, by omega⟩
      case measure => simp [intOf]; omega
    · obtain rfl : j = k := by omega
      by_cases hlt2 : j < n
      · obtain ⟨r, hr⟩ : ∃ r, R[j]? = some r := ⟨_, List.getElem?_eq_getElem (by rw [hl.out]; omega)⟩
        have hb := hs2.out r hr
        obtain ⟨b, off, rfl, c0, -⟩ := hv.out.atR hr
        obtain ⟨x, ex⟩ : ∃ x, r.1 = x := ⟨_, rfl⟩
        rw [ex] at c0 hb
        have H := Lib.hid (Better_any s x p w)
        rw [hb] at H
        have hF2 : Hid (f = decide (x = p)) := Lib.hid (by rw [hF.out, hr, ← ex])
        have d1 : decide (j < n) = true := decide_eq_true (by omega)
        clear hr ex hb hF
        go_wp2_with fail
        refine H.out.mono ?_
        rintro e w' ⟨rfl, rfl⟩
        go_wp2_with fail
        go_quiet (fail)
        go_wp2_with fail
        go_ret2
        exact ⟨by rw [hF2.out]; rfl, below_drewN0 (Below.refl _ w) _⟩
      · obtain rfl : j = n := by omega
        have d1 : decide (j < j) = false := by simp
        have hF2 : Hid (f = false) := Lib.hid (by rw [hF.out, List.getElem?_eq_none (by rw [hl.out]; omega)])
        clear hF
        go_wp2_with fail
        go_quiet (fail)
        go_wp2_with fail
        go_ret2
        exact ⟨by rw [hF2.out]; rfl, below_drewN0 (Below.refl _ w) _⟩
end Go.Proofs.Ytlknlicokacoiaa
