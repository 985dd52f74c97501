/-
  Leaves: Sub, Floor; multiple, within, spread, rightMonths.
-/
import Derived.Test.YtpfgmebajefjaaaProd
import Derived.WalkKit
import Derived.WalkSpells
import Derived.WalkLawsBesides
namespace Go.Proofs.Ytpfgmebajefjaaa
open Go.RowKit
set_option linter.unusedVariables false
set_option linter.unusedSimpArgs false

def fitB (x : Int) : Bool := decide (-9223372036854775808 ≤ x ∧ x ≤ 9223372036854775807)
def pick (x : Int) : Int := bif fitB x then x else 0
theorem fitB_iff (x : Int) : fitB x = true ↔ (-9223372036854775808 ≤ x ∧ x ≤ 9223372036854775807) := by
  unfold fitB; exact decide_eq_true_iff
theorem fitB_yes {x : Int} (h1 : -9223372036854775808 ≤ x) (h2 : x ≤ 9223372036854775807) : fitB x = true := (fitB_iff x).2 ⟨h1, h2⟩
theorem fitB_no {x : Int} (h : ¬ (-9223372036854775808 ≤ x ∧ x ≤ 9223372036854775807)) : fitB x = false := by
  unfold fitB; exact decide_eq_false h
theorem pick_yes {x : Int} (h : fitB x = true) : pick x = x := by unfold pick; rw [h]; rfl
theorem pick_no {x : Int} (h : fitB x = false) : pick x = 0 := by unfold pick; rw [h]; rfl
theorem ret2 {k : IntKind} {x y : Int} {b c : Bool} (h1 : x = y) (h2 : b = c) : Ending.returned (.tuple #[.int k x, .bool b]) = .returned (.tuple #[.int k y, .bool c]) := by rw [h1, h2]
theorem ret2_yes {x : Int} (h : fitB x = true) : Ending.returned (.tuple #[.int .i64 x, .bool true]) = .returned (.tuple #[.int .i64 (pick x), .bool (fitB x)]) := ret2 (pick_yes h).symm h.symm
theorem ret2_no {x : Int} (h : fitB x = false) : Ending.returned (.tuple #[.int .i64 0, .bool false]) = .returned (.tuple #[.int .i64 (pick x), .bool (fitB x)]) := ret2 (pick_no h).symm h.symm
theorem wrap_lo {x : Int} (h1 : -18446744073709551616 ≤ x) (h2 : x < -9223372036854775808) : decide (wrap64 x < 0) = false := by
  refine decide_eq_false ?_; unfold wrap64; omega
theorem wrap_hi {x : Int} (h1 : 9223372036854775807 < x) (h2 : x < 18446744073709551616) : decide (wrap64 x < 0) = true := by
  refine decide_eq_true ?_; unfold wrap64; omega
theorem fl_tmod {a b : Int} (hr : a % b = 0) : a.tmod b = 0 := Int.tmod_eq_zero_of_dvd (Int.dvd_of_emod_eq_zero hr)
theorem fl_tmod' {a b : Int} (ha : a < 0) (hb : 1 ≤ b) (hr : a % b ≠ 0) : a.tmod b = a % b - b := by
  rw [Int.tmod_eq_emod]
  have hd : ¬ b ∣ a := fun h => hr (Int.emod_eq_zero_of_dvd h)
  rw [if_neg (by simp [hd]; omega)]
  omega
set_option maxHeartbeats 400000 in
theorem Sub_any (a b : Int) (w : World) (a1 : -9223372036854775808 ≤ a) (a2 : a ≤ 9223372036854775807) (b1 : -9223372036854775808 ≤ b) (b2 : b ≤ 9223372036854775807) :
    Calls Try.prog 39 #[.int .i64 a, .int .i64 b] w fun e w' => e = .returned (.tuple #[.int .i64 (pick (a - b)), .bool (fitB (a - b))]) ∧ w = w' := by
  by_cases h : -9223372036854775808 ≤ a - b ∧ a - b ≤ 9223372036854775807
  · obtain ⟨h1, h2⟩ := h
    have fin := ret2_yes (fitB_yes h1 h2)
    have Fin := Lib.hid fin
    clear fin
    by_cases ha : a < 0 <;> by_cases hb : b < 0 <;> by_cases hs : a - b < 0
    all_goals first | omega | skip
    all_goals
      go_enter Try.func39, Try.ntmps39
      go_wp2
      go_ret2
      exact ⟨Fin.out, rfl⟩
  · have fin := ret2_no (fitB_no h)
    have Fin := Lib.hid fin
    clear fin
    by_cases ha : a < 0
    · have hb : ¬ b < 0 := by omega
      have hw := wrap_lo (x := a - b) (by omega) (by omega)
      clear h
      go_enter Try.func39, Try.ntmps39
      go_wp2
      go_ret2
      exact ⟨Fin.out, rfl⟩
    · have hb : b < 0 := by omega
      have hw := wrap_hi (x := a - b) (by omega) (by omega)
      clear h
      go_enter Try.func39, Try.ntmps39
      go_wp2
      go_ret2
      exact ⟨Fin.out, rfl⟩
set_option maxHeartbeats 400000 in
theorem Floor_bad (a b : Int) (w : World) (hb : b < 1) :
    Calls Try.prog 35 #[.int .i64 a, .int .i64 b] w fun e w' => e = .returned (.tuple #[.int .i64 0, .bool false]) ∧ w = w' := by
  go_enter Try.func35, Try.ntmps35
  go_wp2
  go_ret2
  exact ⟨rfl, rfl⟩
set_option maxHeartbeats 400000 in
theorem Floor_any (a b : Int) (w : World) (a1 : -9223372036854775808 ≤ a) (a2 : a ≤ 9223372036854775807) (b1 : 1 ≤ b) (b2 : b ≤ 9223372036854775807) :
    Calls Try.prog 35 #[.int .i64 a, .int .i64 b] w fun e w' => e = .returned (.tuple #[.int .i64 (pick (a - a % b)), .bool (fitB (a - a % b))]) ∧ w = w' := by
  have r1 := Int.emod_nonneg a (b := b) (by omega)
  have r2 := Int.emod_lt_of_pos a (b := b) (by omega)
  by_cases ha : a < 0
  · by_cases hr : a % b = 0
    · have ht := fl_tmod hr
      rw [hr, Int.sub_zero]
      clear r1 r2 hr
      go_enter Try.func35, Try.ntmps35
      go_wp2_with (go_at_call 39; refine (Sub_any _ _ _ (by omega) (by omega) (by omega) (by omega)).mono ?_; rintro e w' ⟨rfl, rfl⟩)
      go_ret2
      exact ⟨rfl, rfl⟩
    · have ht := fl_tmod' ha b1 hr
      clear hr
      go_enter Try.func35, Try.ntmps35
      go_wp2_with (go_at_call 39; refine (Sub_any _ _ _ (by omega) (by omega) (by omega) (by omega)).mono ?_; rintro e w' ⟨rfl, rfl⟩)
      go_ret2
      exact ⟨rfl, rfl⟩
  · go_enter Try.func35, Try.ntmps35
    go_wp2_with (go_at_call 39; refine (Sub_any _ _ _ (by omega) (by omega) (by omega) (by omega)).mono ?_; rintro e w' ⟨rfl, rfl⟩)
    go_ret2
    exact ⟨rfl, rfl⟩

/-- Is n a multiple of t, which is above 0? -/
def multB (n t : Int) : Bool := decide (1 ≤ t ∧ n.tmod t = 0)
theorem multB_no {n t : Int} (h : ¬ 1 ≤ t) : multB n t = false := decide_eq_false (fun g => h g.1)
theorem tmod_emod {n t : Int} : n.tmod t = 0 ↔ n % t = 0 := by rw [← Int.dvd_iff_tmod_eq_zero, ← Int.dvd_iff_emod_eq_zero]
theorem multB_yes {n t : Int} (h1 : 1 ≤ t) (h : n % t = 0) : multB n t = true := decide_eq_true ⟨h1, tmod_emod.2 h⟩
theorem multB_off {n t : Int} (h : ¬ n % t = 0) : multB n t = false := decide_eq_false (fun g => h (tmod_emod.1 g.2))
theorem multB_tmod {n t : Int} (h1 : 1 ≤ t) : multB n t = decide (n.tmod t = 0) := by
  by_cases h : n.tmod t = 0
  · rw [decide_eq_true h]; exact decide_eq_true ⟨h1, h⟩
  · rw [decide_eq_false h]; exact decide_eq_false (fun g => h g.2)
set_option maxHeartbeats 800000 in
theorem Mult_any (n t : Int) (w : World) (hn : I64 n) (ht : I64 t) :
    Calls Try.prog 23 #[.int .i64 n, .int .i64 t] w fun e w' => e = .returned (.bool (multB n t)) ∧ w = w' := by
  obtain ⟨n1, n2⟩ := hn
  obtain ⟨t1, t2⟩ := ht
  by_cases h1 : 1 ≤ t
  · have HF := Lib.hid (Floor_any n t w n1 n2 h1 t2)
    by_cases h0 : n % t = 0
    · have hv := Lib.hid (multB_yes h1 h0)
      rw [h0, Int.sub_zero, fitB_yes n1 n2, pick_yes (fitB_yes n1 n2)] at HF
      clear h0 h1
      go_enter Try.func23, Try.ntmps23
      go_wp2_with fail
      refine HF.out.mono ?_
      rintro e w' ⟨rfl, rfl⟩
      have hq : (n == n) = true := by simp
      go_wp2_with fail
      go_ret
      exact ⟨by rw [hv.out]; rfl, rfl⟩
    · have hv := Lib.hid (multB_off h0 : multB n t = false)
      have hq : ∀ x, fitB (n - n % t) = true → x = pick (n - n % t) → (x == n) = false := fun x e e2 => by
        rw [e2, pick_yes e]
        refine beq_eq_false_iff_ne.2 ?_
        omega
      obtain ⟨x, ex⟩ : ∃ x, pick (n - n % t) = x := ⟨_, rfl⟩
      obtain ⟨b, eb⟩ : ∃ b, fitB (n - n % t) = b := ⟨_, rfl⟩
      rw [ex, eb] at HF
      have hq2 : b = true → (x == n) = false := fun e => hq x (eb.trans e) ex.symm
      clear hq h0 h1 ex eb
      go_enter Try.func23, Try.ntmps23
      go_wp2_with fail
      refine HF.out.mono ?_
      rintro e w' ⟨rfl, rfl⟩
      cases b
      · clear hq2
        go_wp2_with fail
        go_ret
        exact ⟨by rw [hv.out]; rfl, rfl⟩
      · have hq := hq2 rfl
        clear hq2
        go_wp2_with fail
        go_ret
        exact ⟨by rw [hv.out]; rfl, rfl⟩
  · have HF := Lib.hid (Floor_bad n t w (by omega))
    have hv := Lib.hid (multB_no h1 : multB n t = false)
    clear h1
    go_enter Try.func23, Try.ntmps23
    go_wp2_with fail
    refine HF.out.mono ?_
    rintro e w' ⟨rfl, rfl⟩
    go_wp2_with fail
    go_ret
    exact ⟨by rw [hv.out]; rfl, rfl⟩
/-- Is n from lo to hi? -/
def insB (n lo hi : Int) : Bool := decide (lo ≤ n ∧ n ≤ hi)
theorem Inside_any (n lo hi : Int) (w : World) :
    Calls Try.prog 24 #[.int .i64 n, .int .i64 lo, .int .i64 hi] w fun e w' => e = .returned (.bool (insB n lo hi)) ∧ w = w' := by
  by_cases h1 : lo ≤ n
  · by_cases h2 : n ≤ hi
    · have hv := Lib.hid (show insB n lo hi = true from decide_eq_true ⟨h1, h2⟩)
      have d1 : decide (lo ≤ n) = true := decide_eq_true h1
      have d2 : decide (n ≤ hi) = true := decide_eq_true h2
      clear h1 h2
      go_enter Try.func24, Try.ntmps24
      go_wp2_with fail
      go_ret
      exact ⟨by rw [hv.out]; rfl, rfl⟩
    · have hv := Lib.hid (show insB n lo hi = false from decide_eq_false (fun h => h2 h.2))
      have d1 : decide (lo ≤ n) = true := decide_eq_true h1
      have d2 : decide (n ≤ hi) = false := decide_eq_false h2
      clear h1 h2
      go_enter Try.func24, Try.ntmps24
      go_wp2_with fail
      go_ret
      exact ⟨by rw [hv.out]; rfl, rfl⟩
  · have hv := Lib.hid (show insB n lo hi = false from decide_eq_false (fun h => h1 h.1))
    have d1 : decide (lo ≤ n) = false := decide_eq_false h1
    clear h1
    go_enter Try.func24, Try.ntmps24
    go_wp2_with fail
    go_ret
    exact ⟨by rw [hv.out]; rfl, rfl⟩
theorem PSpread_any (i j : Int) (w : World) :
    Calls Try.prog 21 #[.agg #[.int .i64 i, .int .i64 j]] w fun e w' => e = .returned (.bool (i != j)) ∧ Below w.heap.size w w' := by
  obtain ⟨v, hv⟩ : ∃ v, (i != j) = v := ⟨_, rfl⟩
  rw [hv]
  go_enter Try.func21, Try.ntmps21
  go_wp2_with fail
  go_ret
  exact ⟨rfl, (Below.refl _ w).alloc (Nat.le_refl _) _⟩
def rmB (n : Nat) (Q : Nat → Int) : Bool := decide (2 ≤ n ∧ n ≤ 6 ∧ ∀ i, i < n → okM Q i)
set_option maxRecDepth 100000 in
set_option maxHeartbeats 1600000 in
theorem RightMonths_any (A1 : Option Addr) (n1 c1 : Nat) (Q : Nat → Int) (w : World) (hm : Hid (Nums w A1 n1 Q)) (l1 : n1 ≤ c1) (m1 : c1 ≤ 9223372036854775807) :
    Calls Try.prog 29 #[.slice A1 n1 c1] w fun e w' => e = .returned (.bool (rmB n1 Q)) ∧ w = w' := by
  go_enter Try.func29, Try.ntmps29
  by_cases q1 : n1 < 2
  · have d1 : decide ((n1 : Int) < 2) = true := decide_eq_true (by omega)
    have hv := Lib.hid (show rmB n1 Q = false from decide_eq_false (fun h => by omega))
    clear q1
    go_wp2_with fail
    go_ret
    exact ⟨by rw [hv.out]; rfl, rfl⟩
  · have d1 : decide ((n1 : Int) < 2) = false := decide_eq_false (by omega)
    by_cases q2 : 6 < n1
    · have d2 : decide ((6 : Int) < (n1 : Int)) = true := decide_eq_true (by omega)
      have hv := Lib.hid (show rmB n1 Q = false from decide_eq_false (fun h => by omega))
      clear q1 q2
      go_wp2_with fail
      go_ret
      exact ⟨by rw [hv.out]; rfl, rfl⟩
    · have d2 : decide ((6 : Int) < (n1 : Int)) = false := decide_eq_false (by omega)
      go_wp2_with fail
      go_loopw [16, 3] (fun i bv wr => ∃ (k : Nat) (b : Int), i = .int .i64 k ∧ bv = .int .i64 b ∧ k ≤ n1 ∧ Hid (∀ j, j < k → okM Q j) ∧ Hid ((k = 0 ∧ b = -1) ∨ (0 < k ∧ b = Q (k - 1))) ∧ wr = w) (fun i _ _ => n1 - (intOf i).toNat)
      case atStart => exact ⟨0, -1, rfl, rfl, by omega, Lib.hid (fun j h => absurd h (by omega)), Lib.hid (.inl ⟨rfl, rfl⟩), rfl⟩
      case round =>
        obtain ⟨k, b, rfl, rfl, hk, hall, hb, rfl⟩ := hrel
        by_cases hlt : k < n1
        · have e1 : decide ((k : Int) < (n1 : Int)) = true := decide_eq_true (by omega)
          have e2 : (k : Int) < (n1 : Int) := by omega
          obtain ⟨mb, mo, rfl, hc, -, -⟩ := hm.out k hlt
          have hkey : okM Q k ↔ (b < Q k ∧ Q k ≤ 1199) := by
            unfold okM
            rcases hb.out with ⟨rfl, rfl⟩ | ⟨h0, rfl⟩
            · constructor
              · intro h; omega
              · intro h; exact ⟨by omega, by omega, fun h => absurd h (by omega)⟩
            · have := (hall.out (k - 1) (by omega)).1
              constructor
              · intro h; exact ⟨h.2.2 h0, h.2.1⟩
              · intro h; exact ⟨by omega, by omega, fun _ => h.1⟩
          by_cases x1 : Q k ≤ b
          · have hv := Lib.hid (show rmB n1 Q = false from decide_eq_false (fun h => by have := hkey.1 (h.2.2 k hlt); omega))
            have a1 : decide (Q k ≤ b) = true := decide_eq_true x1
            clear hkey x1 hall hb
            go_wp2_with fail
            go_ret
            exact ⟨by rw [hv.out]; rfl, rfl⟩
          · have a1 : decide (Q k ≤ b) = false := decide_eq_false x1
            by_cases x2 : 1199 < Q k
            · have hv := Lib.hid (show rmB n1 Q = false from decide_eq_false (fun h => by have := hkey.1 (h.2.2 k hlt); omega))
              have a2 : decide (1199 < Q k) = true := decide_eq_true x2
              clear hkey x1 x2 hall hb
              go_wp2_with fail
              go_ret
              exact ⟨by rw [hv.out]; rfl, rfl⟩
            · have a2 : decide (1199 < Q k) = false := decide_eq_false x2
              have hall2 := Lib.hid (show ∀ j, j < k + 1 → okM Q j from fun j hj => by
                by_cases e : j = k
                · subst e; exact hkey.2 ⟨by omega, by omega⟩
                · exact hall.out j (by omega))
              clear hkey x1 x2 hall hb
              go_wp2_with fail
              go_roundw
              case rel => exact ⟨k + 1, Q k, by go_num, rfl, by omega, hall2, Lib.hid (.inr ⟨by omega, rfl⟩), by first | rfl | trivial⟩
              case measure => simp [intOf]; omega
        · obtain rfl : n1 = k := by omega
          have e1 : decide ((n1 : Int) < (n1 : Int)) = false := decide_eq_false (by omega)
          have hv := Lib.hid (show rmB n1 Q = true from decide_eq_true ⟨by omega, by omega, hall.out⟩)
          clear hall hb
          go_wp2_with fail
          go_ret
          exact ⟨by rw [hv.out]; rfl, rfl⟩
end Go.Proofs.Ytpfgmebajefjaaa
