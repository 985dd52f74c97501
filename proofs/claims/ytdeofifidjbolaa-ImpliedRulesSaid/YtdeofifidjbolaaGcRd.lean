/-
  The program's refdata, and sums of numbers.
-/
import Derived.Test.YtdeofifidjbolaaGaBase
import Derived.WalkKit
import Derived.WalkSpells
import Derived.WalkLawsBesides
import Derived.Test.YtdeofifidjbolaaGbRef
import Derived.Below
import Derived.Maps.AppendAt
import Derived.Deep.AppendLies
import Derived.RegionTactic
import Derived.OwnWalk
import Derived.Laws.ResultCell
import Derived.Deep.RegionHeld3
import Derived.Test.YtdeofifidjbolaaRows
import Derived.Lib.Hide
namespace Go.Proofs.Ytdeofifidjbolaa
open Go.RowKit
set_option linter.unusedVariables false
set_option linter.unusedSimpArgs false

def fitB (x : Int) : Bool := decide (-9223372036854775808 ≤ x ∧ x ≤ 9223372036854775807)
def pick (x : Int) : Int := bif fitB x then x else 0
theorem fitB_iff (x : Int) : fitB x = true ↔ (-9223372036854775808 ≤ x ∧ x ≤ 9223372036854775807) := by
  unfold fitB; exact decide_eq_true_iff
theorem fitB_yes {x : Int} (h1 : -9223372036854775808 ≤ x) (h2 : x ≤ 9223372036854775807) : fitB x = true := (fitB_iff x).2 ⟨h1, h2⟩
theorem fitB_no {x : Int} (h : ¬ (-9223372036854775808 ≤ x ∧ x ≤ 9223372036854775807)) : fitB x = false := by
  unfold fitB; exact decide_eq_false h
theorem pick_yes {x : Int} (h : fitB x = true) : pick x = x := by unfold pick; rw [h]; rfl
theorem pick_no {x : Int} (h : fitB x = false) : pick x = 0 := by unfold pick; rw [h]; rfl
theorem ret2 {k : IntKind} {x y : Int} {b c : Bool} (h1 : x = y) (h2 : b = c) : Ending.returned (.tuple #[.int k x, .bool b]) = .returned (.tuple #[.int k y, .bool c]) := by rw [h1, h2]
theorem ret2_yes {x : Int} (h : fitB x = true) : Ending.returned (.tuple #[.int .i64 x, .bool true]) = .returned (.tuple #[.int .i64 (pick x), .bool (fitB x)]) := ret2 (pick_yes h).symm h.symm
theorem ret2_no {x : Int} (h : fitB x = false) : Ending.returned (.tuple #[.int .i64 0, .bool false]) = .returned (.tuple #[.int .i64 (pick x), .bool (fitB x)]) := ret2 (pick_no h).symm h.symm
theorem wrap_lo {x : Int} (h1 : -18446744073709551616 ≤ x) (h2 : x < -9223372036854775808) : decide (wrap64 x < 0) = false := by
  refine decide_eq_false ?_; unfold wrap64; omega
theorem wrap_hi {x : Int} (h1 : 9223372036854775807 < x) (h2 : x < 18446744073709551616) : decide (wrap64 x < 0) = true := by
  refine decide_eq_true ?_; unfold wrap64; omega
theorem fl_tmod {a b : Int} (hr : a % b = 0) : a.tmod b = 0 := Int.tmod_eq_zero_of_dvd (Int.dvd_of_emod_eq_zero hr)
theorem fl_tmod' {a b : Int} (ha : a < 0) (hb : 1 ≤ b) (hr : a % b ≠ 0) : a.tmod b = a % b - b := by
  rw [Int.tmod_eq_emod]
  have hd : ¬ b ∣ a := fun h => hr (Int.emod_eq_zero_of_dvd h)
  rw [if_neg (by simp [hd]; omega)]
  omega
set_option maxHeartbeats 400000 in
theorem Sub_any (a b : Int) (w : World) (a1 : -9223372036854775808 ≤ a) (a2 : a ≤ 9223372036854775807) (b1 : -9223372036854775808 ≤ b) (b2 : b ≤ 9223372036854775807) :
    Calls Try.prog 69 #[.int .i64 a, .int .i64 b] w fun e w' => e = .returned (.tuple #[.int .i64 (pick (a - b)), .bool (fitB (a - b))]) ∧ w = w' := by
  by_cases h : -9223372036854775808 ≤ a - b ∧ a - b ≤ 9223372036854775807
  · obtain ⟨h1, h2⟩ := h
    have fin := ret2_yes (fitB_yes h1 h2)
    have Fin := Lib.hid fin
    clear fin
    by_cases ha : a < 0 <;> by_cases hb : b < 0 <;> by_cases hs : a - b < 0
    all_goals first | omega | skip
    all_goals
      go_enter Try.func69, Try.ntmps69
      go_wp2
      go_ret2
      exact ⟨Fin.out, rfl⟩
  · have fin := ret2_no (fitB_no h)
    have Fin := Lib.hid fin
    clear fin
    by_cases ha : a < 0
    · have hb : ¬ b < 0 := by omega
      have hw := wrap_lo (x := a - b) (by omega) (by omega)
      clear h
      go_enter Try.func69, Try.ntmps69
      go_wp2
      go_ret2
      exact ⟨Fin.out, rfl⟩
    · have hb : b < 0 := by omega
      have hw := wrap_hi (x := a - b) (by omega) (by omega)
      clear h
      go_enter Try.func69, Try.ntmps69
      go_wp2
      go_ret2
      exact ⟨Fin.out, rfl⟩
set_option maxHeartbeats 400000 in
theorem Floor_bad (a b : Int) (w : World) (hb : b < 1) :
    Calls Try.prog 62 #[.int .i64 a, .int .i64 b] w fun e w' => e = .returned (.tuple #[.int .i64 0, .bool false]) ∧ w = w' := by
  go_enter Try.func62, Try.ntmps62
  go_wp2
  go_ret2
  exact ⟨rfl, rfl⟩
set_option maxHeartbeats 400000 in
theorem Floor_any (a b : Int) (w : World) (a1 : -9223372036854775808 ≤ a) (a2 : a ≤ 9223372036854775807) (b1 : 1 ≤ b) (b2 : b ≤ 9223372036854775807) :
    Calls Try.prog 62 #[.int .i64 a, .int .i64 b] w fun e w' => e = .returned (.tuple #[.int .i64 (pick (a - a % b)), .bool (fitB (a - a % b))]) ∧ w = w' := by
  have r1 := Int.emod_nonneg a (b := b) (by omega)
  have r2 := Int.emod_lt_of_pos a (b := b) (by omega)
  by_cases ha : a < 0
  · by_cases hr : a % b = 0
    · have ht := fl_tmod hr
      rw [hr, Int.sub_zero]
      clear r1 r2 hr
      go_enter Try.func62, Try.ntmps62
      go_wp2_with (go_at_call 69; refine (Sub_any _ _ _ (by omega) (by omega) (by omega) (by omega)).mono ?_; rintro e w' ⟨rfl, rfl⟩)
      go_ret2
      exact ⟨rfl, rfl⟩
    · have ht := fl_tmod' ha b1 hr
      clear hr
      go_enter Try.func62, Try.ntmps62
      go_wp2_with (go_at_call 69; refine (Sub_any _ _ _ (by omega) (by omega) (by omega) (by omega)).mono ?_; rintro e w' ⟨rfl, rfl⟩)
      go_ret2
      exact ⟨rfl, rfl⟩
  · go_enter Try.func62, Try.ntmps62
    go_wp2_with (go_at_call 69; refine (Sub_any _ _ _ (by omega) (by omega) (by omega) (by omega)).mono ?_; rintro e w' ⟨rfl, rfl⟩)
    go_ret2
    exact ⟨rfl, rfl⟩

/-- Is n a multiple of t, which is above 0? -/
def multB (n t : Int) : Bool := decide (1 ≤ t ∧ n.tmod t = 0)
theorem multB_no {n t : Int} (h : ¬ 1 ≤ t) : multB n t = false := decide_eq_false (fun g => h g.1)
theorem tmod_emod {n t : Int} : n.tmod t = 0 ↔ n % t = 0 := by rw [← Int.dvd_iff_tmod_eq_zero, ← Int.dvd_iff_emod_eq_zero]
theorem multB_yes {n t : Int} (h1 : 1 ≤ t) (h : n % t = 0) : multB n t = true := decide_eq_true ⟨h1, tmod_emod.2 h⟩
theorem multB_off {n t : Int} (h : ¬ n % t = 0) : multB n t = false := decide_eq_false (fun g => h (tmod_emod.1 g.2))
theorem multB_tmod {n t : Int} (h1 : 1 ≤ t) : multB n t = decide (n.tmod t = 0) := by
  by_cases h : n.tmod t = 0
  · rw [decide_eq_true h]; exact decide_eq_true ⟨h1, h⟩
  · rw [decide_eq_false h]; exact decide_eq_false (fun g => h g.2)
set_option maxHeartbeats 800000 in
theorem Mult_any (n t : Int) (w : World) (hn : I64 n) (ht : I64 t) :
    Calls Try.prog 41 #[.int .i64 n, .int .i64 t] w fun e w' => e = .returned (.bool (multB n t)) ∧ w = w' := by
  obtain ⟨n1, n2⟩ := hn
  obtain ⟨t1, t2⟩ := ht
  by_cases h1 : 1 ≤ t
  · have HF := Lib.hid (Floor_any n t w n1 n2 h1 t2)
    by_cases h0 : n % t = 0
    · have hv := Lib.hid (multB_yes h1 h0)
      rw [h0, Int.sub_zero, fitB_yes n1 n2, pick_yes (fitB_yes n1 n2)] at HF
      clear h0 h1
      go_enter Try.func41, Try.ntmps41
      go_wp2_with fail
      refine HF.out.mono ?_
      rintro e w' ⟨rfl, rfl⟩
      have hq : (n == n) = true := by simp
      go_wp2_with fail
      go_ret
      exact ⟨by rw [hv.out]; rfl, rfl⟩
    · have hv := Lib.hid (multB_off h0 : multB n t = false)
      have hq : ∀ x, fitB (n - n % t) = true → x = pick (n - n % t) → (x == n) = false := fun x e e2 => by
        rw [e2, pick_yes e]
        refine beq_eq_false_iff_ne.2 ?_
        omega
      obtain ⟨x, ex⟩ : ∃ x, pick (n - n % t) = x := ⟨_, rfl⟩
      obtain ⟨b, eb⟩ : ∃ b, fitB (n - n % t) = b := ⟨_, rfl⟩
      rw [ex, eb] at HF
      have hq2 : b = true → (x == n) = false := fun e => hq x (eb.trans e) ex.symm
      clear hq h0 h1 ex eb
      go_enter Try.func41, Try.ntmps41
      go_wp2_with fail
      refine HF.out.mono ?_
      rintro e w' ⟨rfl, rfl⟩
      cases b
      · clear hq2
        go_wp2_with fail
        go_ret
        exact ⟨by rw [hv.out]; rfl, rfl⟩
      · have hq := hq2 rfl
        clear hq2
        go_wp2_with fail
        go_ret
        exact ⟨by rw [hv.out]; rfl, rfl⟩
  · have HF := Lib.hid (Floor_bad n t w (by omega))
    have hv := Lib.hid (multB_no h1 : multB n t = false)
    clear h1
    go_enter Try.func41, Try.ntmps41
    go_wp2_with fail
    refine HF.out.mono ?_
    rintro e w' ⟨rfl, rfl⟩
    go_wp2_with fail
    go_ret
    exact ⟨by rw [hv.out]; rfl, rfl⟩
/-- Is n from lo to hi? -/
def insB (n lo hi : Int) : Bool := decide (lo ≤ n ∧ n ≤ hi)
theorem Inside_any (n lo hi : Int) (w : World) :
    Calls Try.prog 42 #[.int .i64 n, .int .i64 lo, .int .i64 hi] w fun e w' => e = .returned (.bool (insB n lo hi)) ∧ w = w' := by
  by_cases h1 : lo ≤ n
  · by_cases h2 : n ≤ hi
    · have hv := Lib.hid (show insB n lo hi = true from decide_eq_true ⟨h1, h2⟩)
      have d1 : decide (lo ≤ n) = true := decide_eq_true h1
      have d2 : decide (n ≤ hi) = true := decide_eq_true h2
      clear h1 h2
      go_enter Try.func42, Try.ntmps42
      go_wp2_with fail
      go_ret
      exact ⟨by rw [hv.out]; rfl, rfl⟩
    · have hv := Lib.hid (show insB n lo hi = false from decide_eq_false (fun h => h2 h.2))
      have d1 : decide (lo ≤ n) = true := decide_eq_true h1
      have d2 : decide (n ≤ hi) = false := decide_eq_false h2
      clear h1 h2
      go_enter Try.func42, Try.ntmps42
      go_wp2_with fail
      go_ret
      exact ⟨by rw [hv.out]; rfl, rfl⟩
  · have hv := Lib.hid (show insB n lo hi = false from decide_eq_false (fun h => h1 h.1))
    have d1 : decide (lo ≤ n) = false := decide_eq_false h1
    clear h1
    go_enter Try.func42, Try.ntmps42
    go_wp2_with fail
    go_ret
    exact ⟨by rw [hv.out]; rfl, rfl⟩
theorem PSpread_any (i j : Int) (w : World) :
    Calls Try.prog 38 #[.agg #[.int .i64 i, .int .i64 j]] w fun e w' => e = .returned (.bool (i != j)) ∧ Below w.heap.size w w' := by
  obtain ⟨v, hv⟩ : ∃ v, (i != j) = v := ⟨_, rfl⟩
  rw [hv]
  go_enter Try.func38, Try.ntmps38
  go_wp2_with fail
  go_ret
  exact ⟨rfl, (Below.refl _ w).alloc (Nat.le_refl _) _⟩
def rmB (n : Nat) (Q : Nat → Int) : Bool := decide (2 ≤ n ∧ n ≤ 6 ∧ ∀ i, i < n → okM Q i)
set_option maxRecDepth 100000 in
set_option maxHeartbeats 1600000 in
theorem RightMonths_any (A1 : Option Addr) (n1 c1 : Nat) (Q : Nat → Int) (w : World) (hm : Hid (Nums w A1 n1 Q)) (l1 : n1 ≤ c1) (m1 : c1 ≤ 9223372036854775807) :
    Calls Try.prog 57 #[.slice A1 n1 c1] w fun e w' => e = .returned (.bool (rmB n1 Q)) ∧ w = w' := by
  go_enter Try.func57, Try.ntmps57
  by_cases q1 : n1 < 2
  · have d1 : decide ((n1 : Int) < 2) = true := decide_eq_true (by omega)
    have hv := Lib.hid (show rmB n1 Q = false from decide_eq_false (fun h => by omega))
    clear q1
    go_wp2_with fail
    go_ret
    exact ⟨by rw [hv.out]; rfl, rfl⟩
  · have d1 : decide ((n1 : Int) < 2) = false := decide_eq_false (by omega)
    by_cases q2 : 6 < n1
    · have d2 : decide ((6 : Int) < (n1 : Int)) = true := decide_eq_true (by omega)
      have hv := Lib.hid (show rmB n1 Q = false from decide_eq_false (fun h => by omega))
      clear q1 q2
      go_wp2_with fail
      go_ret
      exact ⟨by rw [hv.out]; rfl, rfl⟩
    · have d2 : decide ((6 : Int) < (n1 : Int)) = false := decide_eq_false (by omega)
      go_wp2_with fail
      go_loopw [16, 3] (fun i bv wr => ∃ (k : Nat) (b : Int), i = .int .i64 k ∧ bv = .int .i64 b ∧ k ≤ n1 ∧ Hid (∀ j, j < k → okM Q j) ∧ Hid ((k = 0 ∧ b = -1) ∨ (0 < k ∧ b = Q (k - 1))) ∧ wr = w) (fun i _ _ => n1 - (intOf i).toNat)
      case atStart => exact ⟨0, -1, rfl, rfl, by omega, Lib.hid (fun j h => absurd h (by omega)), Lib.hid (.inl ⟨rfl, rfl⟩), rfl⟩
      case round =>
        obtain ⟨k, b, rfl, rfl, hk, hall, hb, rfl⟩ := hrel
        by_cases hlt : k < n1
        · have e1 : decide ((k : Int) < (n1 : Int)) = true := decide_eq_true (by omega)
          have e2 : (k : Int) < (n1 : Int) := by omega
          obtain ⟨mb, mo, rfl, hc, -, -⟩ := hm.out k hlt
          have hkey : okM Q k ↔ (b < Q k ∧ Q k ≤ 1199) := by
            unfold okM
            rcases hb.out with ⟨rfl, rfl⟩ | ⟨h0, rfl⟩
            · constructor
              · intro h; omega
              · intro h; exact ⟨by omega, by omega, fun h => absurd h (by omega)⟩
            · have := (hall.out (k - 1) (by omega)).1
              constructor
              · intro h; exact ⟨h.2.2 h0, h.2.1⟩
              · intro h; exact ⟨by omega, by omega, fun _ => h.1⟩
          by_cases x1 : Q k ≤ b
          · have hv := Lib.hid (show rmB n1 Q = false from decide_eq_false (fun h => by have := hkey.1 (h.2.2 k hlt); omega))
            have a1 : decide (Q k ≤ b) = true := decide_eq_true x1
            clear hkey x1 hall hb
            go_wp2_with fail
            go_ret
            exact ⟨by rw [hv.out]; rfl, rfl⟩
          · have a1 : decide (Q k ≤ b) = false := decide_eq_false x1
            by_cases x2 : 1199 < Q k
            · have hv := Lib.hid (show rmB n1 Q = false from decide_eq_false (fun h => by have := hkey.1 (h.2.2 k hlt); omega))
              have a2 : decide (1199 < Q k) = true := decide_eq_true x2
              clear hkey x1 x2 hall hb
              go_wp2_with fail
              go_ret
              exact ⟨by rw [hv.out]; rfl, rfl⟩
            · have a2 : decide (1199 < Q k) = false := decide_eq_false x2
              have hall2 := Lib.hid (show ∀ j, j < k + 1 → okM Q j from fun j hj => by
                by_cases e : j = k
                · subst e; exact hkey.2 ⟨by omega, by omega⟩
                · exact hall.out j (by omega))
              clear hkey x1 x2 hall hb
              go_wp2_with fail
              go_roundw
              case rel => exact ⟨k + 1, Q k, by go_num, rfl, by omega, hall2, Lib.hid (.inr ⟨by omega, rfl⟩), by first | rfl | trivial⟩
              case measure => simp [intOf]; omega
        · obtain rfl : n1 = k := by omega
          have e1 : decide ((n1 : Int) < (n1 : Int)) = false := decide_eq_false (by omega)
          have hv := Lib.hid (show rmB n1 Q = true from decide_eq_true ⟨by omega, by omega, hall.out⟩)
          clear hall hb
          go_wp2_with fail
          go_ret
          exact ⟨by rw [hv.out]; rfl, rfl⟩
end Go.Proofs.Ytdeofifidjbolaa
namespace Go.Proofs.Ytdeofifidjbolaa
open Go.RowKit
set_option linter.unusedVariables false
set_option linter.unusedSimpArgs false

def otB (p : PD) : Bool := decide (1 ≤ p.tick ∧ p.tick ≤ 1000 ∧ (∀ i, i < p.n2 → (p.R i).tmod p.tick = 0) ∧ p.low.tmod p.tick = 0 ∧ p.high.tmod p.tick = 0 ∧ p.wide.tmod p.tick = 0)
set_option maxRecDepth 100000 in
set_option maxHeartbeats 1600000 in
theorem OnTick_any (p : PD) (w : World) (h : Hid (p.Ok w)) :
    Calls Try.prog 58 #[p.val] w fun e w' => e = .returned (.bool (otB p)) ∧ Below w.heap.size w w' := by
  have l1 := h.out.l1
  have m1 := h.out.m1
  have l2 := h.out.l2
  have m2 := h.out.m2
  have hco := h.out.code
  obtain ⟨ti1, ti2⟩ := h.out.tick
  obtain ⟨lo1, lo2⟩ := h.out.low
  obtain ⟨hg1, hg2⟩ := h.out.high
  obtain ⟨wi1, wi2⟩ := h.out.wide
  obtain ⟨ru1, ru2⟩ := h.out.rule
  obtain ⟨to1, to2⟩ := h.out.top
  obtain ⟨le1, le2⟩ := h.out.least
  obtain ⟨pa1, pa2⟩ := h.out.part
  have HO1 : Hid (∀ W, Below w.heap.size w W → Nums W p.A1 p.n1 p.Q) := Lib.hid (fun W b => h.out.months.below b)
  have HO2 : Hid (∀ W, Below w.heap.size w W → Nums W p.A2 p.n2 p.R) := Lib.hid (fun W b => h.out.settle.below b)
  obtain ⟨v, hv⟩ : ∃ v, otB p = v := ⟨_, rfl⟩
  rw [hv]
  unfold otB at hv
  clear h
  obtain ⟨code, A1, n1, c1, tick, low, high, wide, rule, top, least, part, A2, n2, c2, Q, R⟩ := p
  simp only at l1 m1 l2 m2 hco ti1 ti2 lo1 lo2 hg1 hg2 wi1 wi2 ru1 ru2 to1 to2 le1 le2 pa1 pa2 HO1 HO2 hv
  replace hv := Lib.hid hv
  show Calls Try.prog 58 #[.agg #[.string (str code), .slice A1 n1 c1, .int .i64 tick, .int .i64 low, .int .i64 high, .int .i64 wide, .int .i64 rule, .int .i64 top, .int .i64 least, .int .i64 part, .slice A2 n2 c2]] w _
  obtain ⟨W0, eW0⟩ : ∃ W0, w.alloc (.cells #[.string (str code), .slice A1 n1 c1, .int .i64 tick, .int .i64 low, .int .i64 high, .int .i64 wide, .int .i64 rule, .int .i64 top, .int .i64 least, .int .i64 part, .slice A2 n2 c2] 25) = W0 := ⟨_, rfl⟩
  obtain ⟨pb, epb⟩ : ∃ pb, w.heap.size = pb := ⟨_, rfl⟩
  have hblk0 : W0.heap[pb]? = some (.cells #[.string (str code), .slice A1 n1 c1, .int .i64 tick, .int .i64 low, .int .i64 high, .int .i64 wide, .int .i64 rule, .int .i64 top, .int .i64 least, .int .i64 part, .slice A2 n2 c2] 25 (0, 0)) := by
    rw [← eW0, ← epb]; exact heap_alloc_new w _
  have hB0 : Below w.heap.size w W0 := by rw [← eW0]; exact (Below.refl _ w).alloc (Nat.le_refl _) _
  have hpb0 : pb < W0.heap.size := (Array.getElem?_eq_some_iff.1 hblk0).1
  have kk : ∀ W : World, W.heap[pb]? = some (.cells #[.string (str code), .slice A1 n1 c1, .int .i64 tick, .int .i64 low, .int .i64 high, .int .i64 wide, .int .i64 rule, .int .i64 top, .int .i64 least, .int .i64 part, .slice A2 n2 c2] 25 (0, 0)) → W.cell? ⟨pb, 0, none⟩ = some (.string (str code)) ∧ W.cell? ⟨pb, 1, none⟩ = some (.slice A1 n1 c1) ∧ W.cell? ⟨pb, 2, none⟩ = some (.int .i64 tick) ∧ W.cell? ⟨pb, 3, none⟩ = some (.int .i64 low) ∧ W.cell? ⟨pb, 4, none⟩ = some (.int .i64 high) ∧ W.cell? ⟨pb, 5, none⟩ = some (.int .i64 wide) ∧ W.cell? ⟨pb, 6, none⟩ = some (.int .i64 rule) ∧ W.cell? ⟨pb, 7, none⟩ = some (.int .i64 top) ∧ W.cell? ⟨pb, 8, none⟩ = some (.int .i64 least) ∧ W.cell? ⟨pb, 9, none⟩ = some (.int .i64 part) ∧ W.cell? ⟨pb, 10, none⟩ = some (.slice A2 n2 c2) := by
    intro W hb
    refine ⟨?_, ?_, ?_, ?_, ?_, ?_, ?_, ?_, ?_, ?_, ?_⟩ <;> (rw [Lib.cell_of_heap hb]; rfl)
  replace kk := Lib.hid kk
  replace eW0 := Lib.hid eW0
  replace epb := Lib.hid epb
  have a0 : (w.alloc (.cells #[.string (str code), .slice A1 n1 c1, .int .i64 tick, .int .i64 low, .int .i64 high, .int .i64 wide, .int .i64 rule, .int .i64 top, .int .i64 least, .int .i64 part, .slice A2 n2 c2] 25)).cell? ⟨w.heap.size, 0, none⟩ = some (.string (str code)) := by
    rw [eW0.out, epb.out]; exact (kk.out W0 hblk0).1
  have a1 : (w.alloc (.cells #[.string (str code), .slice A1 n1 c1, .int .i64 tick, .int .i64 low, .int .i64 high, .int .i64 wide, .int .i64 rule, .int .i64 top, .int .i64 least, .int .i64 part, .slice A2 n2 c2] 25)).cell? ⟨w.heap.size, 1, none⟩ = some (.slice A1 n1 c1) := by
    rw [eW0.out, epb.out]; exact (kk.out W0 hblk0).2.1
  have a2 : (w.alloc (.cells #[.string (str code), .slice A1 n1 c1, .int .i64 tick, .int .i64 low, .int .i64 high, .int .i64 wide, .int .i64 rule, .int .i64 top, .int .i64 least, .int .i64 part, .slice A2 n2 c2] 25)).cell? ⟨w.heap.size, 2, none⟩ = some (.int .i64 tick) := by
    rw [eW0.out, epb.out]; exact (kk.out W0 hblk0).2.2.1
  have a3 : (w.alloc (.cells #[.string (str code), .slice A1 n1 c1, .int .i64 tick, .int .i64 low, .int .i64 high, .int .i64 wide, .int .i64 rule, .int .i64 top, .int .i64 least, .int .i64 part, .slice A2 n2 c2] 25)).cell? ⟨w.heap.size, 3, none⟩ = some (.int .i64 low) := by
    rw [eW0.out, epb.out]; exact (kk.out W0 hblk0).2.2.2.1
  have a4 : (w.alloc (.cells #[.string (str code), .slice A1 n1 c1, .int .i64 tick, .int .i64 low, .int .i64 high, .int .i64 wide, .int .i64 rule, .int .i64 top, .int .i64 least, .int .i64 part, .slice A2 n2 c2] 25)).cell? ⟨w.heap.size, 4, none⟩ = some (.int .i64 high) := by
    rw [eW0.out, epb.out]; exact (kk.out W0 hblk0).2.2.2.2.1
  have a5 : (w.alloc (.cells #[.string (str code), .slice A1 n1 c1, .int .i64 tick, .int .i64 low, .int .i64 high, .int .i64 wide, .int .i64 rule, .int .i64 top, .int .i64 least, .int .i64 part, .slice A2 n2 c2] 25)).cell? ⟨w.heap.size, 5, none⟩ = some (.int .i64 wide) := by
    rw [eW0.out, epb.out]; exact (kk.out W0 hblk0).2.2.2.2.2.1
  have a6 : (w.alloc (.cells #[.string (str code), .slice A1 n1 c1, .int .i64 tick, .int .i64 low, .int .i64 high, .int .i64 wide, .int .i64 rule, .int .i64 top, .int .i64 least, .int .i64 part, .slice A2 n2 c2] 25)).cell? ⟨w.heap.size, 6, none⟩ = some (.int .i64 rule) := by
    rw [eW0.out, epb.out]; exact (kk.out W0 hblk0).2.2.2.2.2.2.1
  have a7 : (w.alloc (.cells #[.string (str code), .slice A1 n1 c1, .int .i64 tick, .int .i64 low, .int .i64 high, .int .i64 wide, .int .i64 rule, .int .i64 top, .int .i64 least, .int .i64 part, .slice A2 n2 c2] 25)).cell? ⟨w.heap.size, 7, none⟩ = some (.int .i64 top) := by
    rw [eW0.out, epb.out]; exact (kk.out W0 hblk0).2.2.2.2.2.2.2.1
  have a8 : (w.alloc (.cells #[.string (str code), .slice A1 n1 c1, .int .i64 tick, .int .i64 low, .int .i64 high, .int .i64 wide, .int .i64 rule, .int .i64 top, .int .i64 least, .int .i64 part, .slice A2 n2 c2] 25)).cell? ⟨w.heap.size, 8, none⟩ = some (.int .i64 least) := by
    rw [eW0.out, epb.out]; exact (kk.out W0 hblk0).2.2.2.2.2.2.2.2.1
  have a9 : (w.alloc (.cells #[.string (str code), .slice A1 n1 c1, .int .i64 tick, .int .i64 low, .int .i64 high, .int .i64 wide, .int .i64 rule, .int .i64 top, .int .i64 least, .int .i64 part, .slice A2 n2 c2] 25)).cell? ⟨w.heap.size, 9, none⟩ = some (.int .i64 part) := by
    rw [eW0.out, epb.out]; exact (kk.out W0 hblk0).2.2.2.2.2.2.2.2.2.1
  have a10 : (w.alloc (.cells #[.string (str code), .slice A1 n1 c1, .int .i64 tick, .int .i64 low, .int .i64 high, .int .i64 wide, .int .i64 rule, .int .i64 top, .int .i64 least, .int .i64 part, .slice A2 n2 c2] 25)).cell? ⟨w.heap.size, 10, none⟩ = some (.slice A2 n2 c2) := by
    rw [eW0.out, epb.out]; exact (kk.out W0 hblk0).2.2.2.2.2.2.2.2.2.2
  go_enter Try.func58, Try.ntmps58
  go_wp2_with fail
  rw [eW0.out]
  rw [epb.out]
  clear a0 a1 a2 a3 a4 a5 a6 a7 a8 a9 a10 eW0
  obtain ⟨k0, k1, k2, k3, k4, k5, k6, k7, k8, k9, k10⟩ := kk.out W0 hblk0
  by_cases q1 : 1 ≤ tick ∧ tick ≤ 1000
  · have HI := Inside_any tick 1 1000 W0
    rw [show insB tick 1 1000 = true from decide_eq_true q1] at HI
    obtain ⟨t1, t2⟩ := q1
    refine HI.mono ?_
    clear HI
    rintro e w' ⟨rfl, rfl⟩
    have HO := Lib.hid (HO2.out W0 hB0)
    go_wp2_with fail
    go_loopw [12] (fun i wr => ∃ k : Nat, i = .int .i64 k ∧ k ≤ n2 ∧ Hid (∀ j, j < k → (R j).tmod tick = 0) ∧ wr = W0) (fun i _ => n2 - (intOf i).toNat)
    case atStart => exact ⟨0, rfl, by omega, Lib.hid (fun j h => absurd h (by omega)), rfl⟩
    case round =>
      obtain ⟨k, rfl, hk, hall, rfl⟩ := hrel
      by_cases hlt : k < n2
      · have e1 : decide ((k : Int) < (n2 : Int)) = true := decide_eq_true (by omega)
        have e2 : (k : Int) < (n2 : Int) := by omega
        obtain ⟨mb, mo, rfl, hc, hr1, hr2⟩ := HO.out k hlt
        have HM := Mult_any (R k) tick wr ⟨hr1, hr2⟩ ⟨ti1, ti2⟩
        rw [multB_tmod t1] at HM
        by_cases x0 : (R k).tmod tick = 0
        · rw [decide_eq_true x0] at HM
          have hnx := Lib.hid (show ∀ j, j < k + 1 → (R j).tmod tick = 0 from fun j hj => by
            by_cases e : j = k
            · subst e; exact x0
            · exact hall.out j (by omega))
          clear x0 hall
          replace HM := Lib.hid HM
          go_wp2_with fail
          refine HM.out.mono ?_
          clear HM
          rintro e w' ⟨rfl, rfl⟩
          go_wp2_with fail
          go_roundw
          case rel => exact ⟨k + 1, by go_num, by omega, hnx, by first | rfl | trivial⟩
          case measure => simp [intOf]; omega
        · rw [decide_eq_false x0] at HM
          have hv2 := Lib.hid (show v = false from by rw [← hv.out]; exact decide_eq_false (fun h => x0 (h.2.2.1 k hlt)))
          clear x0 hall
          replace HM := Lib.hid HM
          go_wp2_with fail
          refine HM.out.mono ?_
          clear HM
          rintro e w' ⟨rfl, rfl⟩
          go_wp2_with fail
          go_ret
          exact ⟨by rw [hv2.out]; rfl, hB0⟩
      · obtain rfl : n2 = k := by omega
        have e1 : decide ((n2 : Int) < (n2 : Int)) = false := decide_eq_false (by omega)
        have M1 := Mult_any low tick wr ⟨lo1, lo2⟩ ⟨ti1, ti2⟩
        rw [multB_tmod t1] at M1
        have M2 := Mult_any high tick wr ⟨hg1, hg2⟩ ⟨ti1, ti2⟩
        rw [multB_tmod t1] at M2
        have M3 := Mult_any wide tick wr ⟨wi1, wi2⟩ ⟨ti1, ti2⟩
        rw [multB_tmod t1] at M3
        replace M1 := Lib.hid M1
        replace M2 := Lib.hid M2
        replace M3 := Lib.hid M3
        go_wp2_with fail
        by_cases y1 : low.tmod tick = 0
        · rw [decide_eq_true y1] at M1
          refine M1.out.mono ?_
          rintro e w' ⟨rfl, rfl⟩
          clear M1
          go_wp2_with fail
          by_cases y2 : high.tmod tick = 0
          · rw [decide_eq_true y2] at M2
            refine M2.out.mono ?_
            rintro e w' ⟨rfl, rfl⟩
            clear M2
            go_wp2_with fail
            by_cases y3 : wide.tmod tick = 0
            · rw [decide_eq_true y3] at M3
              refine M3.out.mono ?_
              rintro e w' ⟨rfl, rfl⟩
              clear M3
              have hv2 := Lib.hid (show v = true from by rw [← hv.out]; exact decide_eq_true ⟨t1, t2, hall.out, y1, y2, y3⟩)
              clear hall y1 y2 y3
              go_wp2_with fail
              go_ret
              exact ⟨by rw [hv2.out]; rfl, hB0⟩
            · rw [decide_eq_false y3] at M3
              refine M3.out.mono ?_
              rintro e w' ⟨rfl, rfl⟩
              clear M3
              have hv2 := Lib.hid (show v = false from by rw [← hv.out]; exact decide_eq_false (fun h => y3 h.2.2.2.2.2))
              clear hall y1 y2 y3
              go_wp2_with fail
              go_ret
              exact ⟨by rw [hv2.out]; rfl, hB0⟩
          · rw [decide_eq_false y2] at M2
            refine M2.out.mono ?_
            rintro e w' ⟨rfl, rfl⟩
            clear M2
            have hv2 := Lib.hid (show v = false from by rw [← hv.out]; exact decide_eq_false (fun h => y2 h.2.2.2.2.1))
            clear hall y1 y2
            go_wp2_with fail
            go_ret
            exact ⟨by rw [hv2.out]; rfl, hB0⟩
        · rw [decide_eq_false y1] at M1
          refine M1.out.mono ?_
          rintro e w' ⟨rfl, rfl⟩
          clear M1
          have hv2 := Lib.hid (show v = false from by rw [← hv.out]; exact decide_eq_false (fun h => y1 h.2.2.2.1))
          clear hall y1
          go_wp2_with fail
          go_ret
          exact ⟨by rw [hv2.out]; rfl, hB0⟩
  · have HI := Inside_any tick 1 1000 W0
    rw [show insB tick 1 1000 = false from decide_eq_false q1] at HI
    refine HI.mono ?_
    clear HI
    rintro e w' ⟨rfl, rfl⟩
    have hv2 := Lib.hid (show v = false from by rw [← hv.out]; exact decide_eq_false (fun h => q1 ⟨h.1, h.2.1⟩))
    clear q1
    go_wp2_with fail
    go_ret
    exact ⟨by rw [hv2.out]; rfl, hB0⟩
end Go.Proofs.Ytdeofifidjbolaa
namespace Go.Proofs.Ytdeofifidjbolaa
open Go.RowKit
set_option linter.unusedVariables false
set_option linter.unusedSimpArgs false

def rbB (p : PD) : Bool := decide (¬ (p.low < -1000000 ∨ p.high ≤ p.low ∨ 1000000 < p.high ∨ p.wide < 0 ∨ p.high - p.low < p.wide))
set_option maxRecDepth 100000 in
set_option maxHeartbeats 1600000 in
theorem RightBand_any (p : PD) (w : World) (h : Hid (p.Ok w)) :
    Calls Try.prog 59 #[p.val] w fun e w' => e = .returned (.bool (rbB p)) ∧ Below w.heap.size w w' := by
  have l1 := h.out.l1
  have m1 := h.out.m1
  have l2 := h.out.l2
  have m2 := h.out.m2
  have hco := h.out.code
  obtain ⟨ti1, ti2⟩ := h.out.tick
  obtain ⟨lo1, lo2⟩ := h.out.low
  obtain ⟨hg1, hg2⟩ := h.out.high
  obtain ⟨wi1, wi2⟩ := h.out.wide
  obtain ⟨ru1, ru2⟩ := h.out.rule
  obtain ⟨to1, to2⟩ := h.out.top
  obtain ⟨le1, le2⟩ := h.out.least
  obtain ⟨pa1, pa2⟩ := h.out.part
  have HO1 : Hid (∀ W, Below w.heap.size w W → Nums W p.A1 p.n1 p.Q) := Lib.hid (fun W b => h.out.months.below b)
  have HO2 : Hid (∀ W, Below w.heap.size w W → Nums W p.A2 p.n2 p.R) := Lib.hid (fun W b => h.out.settle.below b)
  obtain ⟨v, hv⟩ : ∃ v, rbB p = v := ⟨_, rfl⟩
  rw [hv]
  unfold rbB at hv
  clear h
  obtain ⟨code, A1, n1, c1, tick, low, high, wide, rule, top, least, part, A2, n2, c2, Q, R⟩ := p
  simp only at l1 m1 l2 m2 hco ti1 ti2 lo1 lo2 hg1 hg2 wi1 wi2 ru1 ru2 to1 to2 le1 le2 pa1 pa2 HO1 HO2 hv
  replace hv := Lib.hid hv
  show Calls Try.prog 59 #[.agg #[.string (str code), .slice A1 n1 c1, .int .i64 tick, .int .i64 low, .int .i64 high, .int .i64 wide, .int .i64 rule, .int .i64 top, .int .i64 least, .int .i64 part, .slice A2 n2 c2]] w _
  obtain ⟨W0, eW0⟩ : ∃ W0, w.alloc (.cells #[.string (str code), .slice A1 n1 c1, .int .i64 tick, .int .i64 low, .int .i64 high, .int .i64 wide, .int .i64 rule, .int .i64 top, .int .i64 least, .int .i64 part, .slice A2 n2 c2] 25) = W0 := ⟨_, rfl⟩
  obtain ⟨pb, epb⟩ : ∃ pb, w.heap.size = pb := ⟨_, rfl⟩
  have hblk0 : W0.heap[pb]? = some (.cells #[.string (str code), .slice A1 n1 c1, .int .i64 tick, .int .i64 low, .int .i64 high, .int .i64 wide, .int .i64 rule, .int .i64 top, .int .i64 least, .int .i64 part, .slice A2 n2 c2] 25 (0, 0)) := by
    rw [← eW0, ← epb]; exact heap_alloc_new w _
  have hB0 : Below w.heap.size w W0 := by rw [← eW0]; exact (Below.refl _ w).alloc (Nat.le_refl _) _
  have hpb0 : pb < W0.heap.size := (Array.getElem?_eq_some_iff.1 hblk0).1
  have kk : ∀ W : World, W.heap[pb]? = some (.cells #[.string (str code), .slice A1 n1 c1, .int .i64 tick, .int .i64 low, .int .i64 high, .int .i64 wide, .int .i64 rule, .int .i64 top, .int .i64 least, .int .i64 part, .slice A2 n2 c2] 25 (0, 0)) → W.cell? ⟨pb, 0, none⟩ = some (.string (str code)) ∧ W.cell? ⟨pb, 1, none⟩ = some (.slice A1 n1 c1) ∧ W.cell? ⟨pb, 2, none⟩ = some (.int .i64 tick) ∧ W.cell? ⟨pb, 3, none⟩ = some (.int .i64 low) ∧ W.cell? ⟨pb, 4, none⟩ = some (.int .i64 high) ∧ W.cell? ⟨pb, 5, none⟩ = some (.int .i64 wide) ∧ W.cell? ⟨pb, 6, none⟩ = some (.int .i64 rule) ∧ W.cell? ⟨pb, 7, none⟩ = some (.int .i64 top) ∧ W.cell? ⟨pb, 8, none⟩ = some (.int .i64 least) ∧ W.cell? ⟨pb, 9, none⟩ = some (.int .i64 part) ∧ W.cell? ⟨pb, 10, none⟩ = some (.slice A2 n2 c2) := by
    intro W hb
    refine ⟨?_, ?_, ?_, ?_, ?_, ?_, ?_, ?_, ?_, ?_, ?_⟩ <;> (rw [Lib.cell_of_heap hb]; rfl)
  replace kk := Lib.hid kk
  replace eW0 := Lib.hid eW0
  replace epb := Lib.hid epb
  have a0 : (w.alloc (.cells #[.string (str code), .slice A1 n1 c1, .int .i64 tick, .int .i64 low, .int .i64 high, .int .i64 wide, .int .i64 rule, .int .i64 top, .int .i64 least, .int .i64 part, .slice A2 n2 c2] 25)).cell? ⟨w.heap.size, 0, none⟩ = some (.string (str code)) := by
    rw [eW0.out, epb.out]; exact (kk.out W0 hblk0).1
  have a1 : (w.alloc (.cells #[.string (str code), .slice A1 n1 c1, .int .i64 tick, .int .i64 low, .int .i64 high, .int .i64 wide, .int .i64 rule, .int .i64 top, .int .i64 least, .int .i64 part, .slice A2 n2 c2] 25)).cell? ⟨w.heap.size, 1, none⟩ = some (.slice A1 n1 c1) := by
    rw [eW0.out, epb.out]; exact (kk.out W0 hblk0).2.1
  have a2 : (w.alloc (.cells #[.string (str code), .slice A1 n1 c1, .int .i64 tick, .int .i64 low, .int .i64 high, .int .i64 wide, .int .i64 rule, .int .i64 top, .int .i64 least, .int .i64 part, .slice A2 n2 c2] 25)).cell? ⟨w.heap.size, 2, none⟩ = some (.int .i64 tick) := by
    rw [eW0.out, epb.out]; exact (kk.out W0 hblk0).2.2.1
  have a3 : (w.alloc (.cells #[.string (str code), .slice A1 n1 c1, .int .i64 tick, .int .i64 low, .int .i64 high, .int .i64 wide, .int .i64 rule, .int .i64 top, .int .i64 least, .int .i64 part, .slice A2 n2 c2] 25)).cell? ⟨w.heap.size, 3, none⟩ = some (.int .i64 low) := by
    rw [eW0.out, epb.out]; exact (kk.out W0 hblk0).2.2.2.1
  have a4 : (w.alloc (.cells #[.string (str code), .slice A1 n1 c1, .int .i64 tick, .int .i64 low, .int .i64 high, .int .i64 wide, .int .i64 rule, .int .i64 top, .int .i64 least, .int .i64 part, .slice A2 n2 c2] 25)).cell? ⟨w.heap.size, 4, none⟩ = some (.int .i64 high) := by
    rw [eW0.out, epb.out]; exact (kk.out W0 hblk0).2.2.2.2.1
  have a5 : (w.alloc (.cells #[.string (str code), .slice A1 n1 c1, .int .i64 tick, .int .i64 low, .int .i64 high, .int .i64 wide, .int .i64 rule, .int .i64 top, .int .i64 least, .int .i64 part, .slice A2 n2 c2] 25)).cell? ⟨w.heap.size, 5, none⟩ = some (.int .i64 wide) := by
    rw [eW0.out, epb.out]; exact (kk.out W0 hblk0).2.2.2.2.2.1
  have a6 : (w.alloc (.cells #[.string (str code), .slice A1 n1 c1, .int .i64 tick, .int .i64 low, .int .i64 high, .int .i64 wide, .int .i64 rule, .int .i64 top, .int .i64 least, .int .i64 part, .slice A2 n2 c2] 25)).cell? ⟨w.heap.size, 6, none⟩ = some (.int .i64 rule) := by
    rw [eW0.out, epb.out]; exact (kk.out W0 hblk0).2.2.2.2.2.2.1
  have a7 : (w.alloc (.cells #[.string (str code), .slice A1 n1 c1, .int .i64 tick, .int .i64 low, .int .i64 high, .int .i64 wide, .int .i64 rule, .int .i64 top, .int .i64 least, .int .i64 part, .slice A2 n2 c2] 25)).cell? ⟨w.heap.size, 7, none⟩ = some (.int .i64 top) := by
    rw [eW0.out, epb.out]; exact (kk.out W0 hblk0).2.2.2.2.2.2.2.1
  have a8 : (w.alloc (.cells #[.string (str code), .slice A1 n1 c1, .int .i64 tick, .int .i64 low, .int .i64 high, .int .i64 wide, .int .i64 rule, .int .i64 top, .int .i64 least, .int .i64 part, .slice A2 n2 c2] 25)).cell? ⟨w.heap.size, 8, none⟩ = some (.int .i64 least) := by
    rw [eW0.out, epb.out]; exact (kk.out W0 hblk0).2.2.2.2.2.2.2.2.1
  have a9 : (w.alloc (.cells #[.string (str code), .slice A1 n1 c1, .int .i64 tick, .int .i64 low, .int .i64 high, .int .i64 wide, .int .i64 rule, .int .i64 top, .int .i64 least, .int .i64 part, .slice A2 n2 c2] 25)).cell? ⟨w.heap.size, 9, none⟩ = some (.int .i64 part) := by
    rw [eW0.out, epb.out]; exact (kk.out W0 hblk0).2.2.2.2.2.2.2.2.2.1
  have a10 : (w.alloc (.cells #[.string (str code), .slice A1 n1 c1, .int .i64 tick, .int .i64 low, .int .i64 high, .int .i64 wide, .int .i64 rule, .int .i64 top, .int .i64 least, .int .i64 part, .slice A2 n2 c2] 25)).cell? ⟨w.heap.size, 10, none⟩ = some (.slice A2 n2 c2) := by
    rw [eW0.out, epb.out]; exact (kk.out W0 hblk0).2.2.2.2.2.2.2.2.2.2
  go_enter Try.func59, Try.ntmps59
  by_cases y0 : low < -1000000
  · have f0 : decide (low < -1000000) = true := decide_eq_true y0
    have hv2 := Lib.hid (show v = false from by rw [← hv.out]; exact decide_eq_false (fun h => h (by omega)))
    clear  y0
    go_wp2_with fail
    rw [eW0.out]
    go_ret
    exact ⟨by rw [hv2.out]; rfl, hB0⟩
  · have f0 : decide (low < -1000000) = false := decide_eq_false y0
    by_cases y1 : high ≤ low
    · have f1 : decide (high ≤ low) = true := decide_eq_true y1
      have hv2 := Lib.hid (show v = false from by rw [← hv.out]; exact decide_eq_false (fun h => h (by omega)))
      clear  y0 y1
      go_wp2_with fail
      rw [eW0.out]
      go_ret
      exact ⟨by rw [hv2.out]; rfl, hB0⟩
    · have f1 : decide (high ≤ low) = false := decide_eq_false y1
      by_cases y2 : 1000000 < high
      · have f2 : decide ((1000000 : Int) < high) = true := decide_eq_true y2
        have hv2 := Lib.hid (show v = false from by rw [← hv.out]; exact decide_eq_false (fun h => h (by omega)))
        clear  y0 y1 y2
        go_wp2_with fail
        rw [eW0.out]
        go_ret
        exact ⟨by rw [hv2.out]; rfl, hB0⟩
      · have f2 : decide ((1000000 : Int) < high) = false := decide_eq_false y2
        have r1 : -9223372036854775808 ≤ high - low := by omega
        have r2 : high - low ≤ 9223372036854775807 := by omega
        go_wp2_with fail
        rw [eW0.out]
        have HI := Inside_any wide 0 (high - low) W0
        rw [show insB wide 0 (high - low) = v from by
          rw [← hv.out]; unfold insB; exact decide_eq_decide.2 ⟨fun h => by omega, fun h => by omega⟩] at HI
        refine HI.mono ?_
        clear HI
        rintro e w' ⟨rfl, rfl⟩
        go_wp2_with fail
        go_ret
        exact ⟨rfl, hB0⟩

def rsB (p : PD) : Bool := decide (p.n2 = p.n1 ∧ ∀ i, i < p.n2 → p.low ≤ p.R i ∧ p.R i ≤ p.high)
set_option maxRecDepth 100000 in
set_option maxHeartbeats 1600000 in
theorem RightSettle_any (p : PD) (w : World) (h : Hid (p.Ok w)) :
    Calls Try.prog 60 #[p.val] w fun e w' => e = .returned (.bool (rsB p)) ∧ Below w.heap.size w w' := by
  have l1 := h.out.l1
  have m1 := h.out.m1
  have l2 := h.out.l2
  have m2 := h.out.m2
  have hco := h.out.code
  obtain ⟨ti1, ti2⟩ := h.out.tick
  obtain ⟨lo1, lo2⟩ := h.out.low
  obtain ⟨hg1, hg2⟩ := h.out.high
  obtain ⟨wi1, wi2⟩ := h.out.wide
  obtain ⟨ru1, ru2⟩ := h.out.rule
  obtain ⟨to1, to2⟩ := h.out.top
  obtain ⟨le1, le2⟩ := h.out.least
  obtain ⟨pa1, pa2⟩ := h.out.part
  have HO1 : Hid (∀ W, Below w.heap.size w W → Nums W p.A1 p.n1 p.Q) := Lib.hid (fun W b => h.out.months.below b)
  have HO2 : Hid (∀ W, Below w.heap.size w W → Nums W p.A2 p.n2 p.R) := Lib.hid (fun W b => h.out.settle.below b)
  obtain ⟨v, hv⟩ : ∃ v, rsB p = v := ⟨_, rfl⟩
  rw [hv]
  unfold rsB at hv
  clear h
  obtain ⟨code, A1, n1, c1, tick, low, high, wide, rule, top, least, part, A2, n2, c2, Q, R⟩ := p
  simp only at l1 m1 l2 m2 hco ti1 ti2 lo1 lo2 hg1 hg2 wi1 wi2 ru1 ru2 to1 to2 le1 le2 pa1 pa2 HO1 HO2 hv
  replace hv := Lib.hid hv
  show Calls Try.prog 60 #[.agg #[.string (str code), .slice A1 n1 c1, .int .i64 tick, .int .i64 low, .int .i64 high, .int .i64 wide, .int .i64 rule, .int .i64 top, .int .i64 least, .int .i64 part, .slice A2 n2 c2]] w _
  obtain ⟨W0, eW0⟩ : ∃ W0, w.alloc (.cells #[.string (str code), .slice A1 n1 c1, .int .i64 tick, .int .i64 low, .int .i64 high, .int .i64 wide, .int .i64 rule, .int .i64 top, .int .i64 least, .int .i64 part, .slice A2 n2 c2] 25) = W0 := ⟨_, rfl⟩
  obtain ⟨pb, epb⟩ : ∃ pb, w.heap.size = pb := ⟨_, rfl⟩
  have hblk0 : W0.heap[pb]? = some (.cells #[.string (str code), .slice A1 n1 c1, .int .i64 tick, .int .i64 low, .int .i64 high, .int .i64 wide, .int .i64 rule, .int .i64 top, .int .i64 least, .int .i64 part, .slice A2 n2 c2] 25 (0, 0)) := by
    rw [← eW0, ← epb]; exact heap_alloc_new w _
  have hB0 : Below w.heap.size w W0 := by rw [← eW0]; exact (Below.refl _ w).alloc (Nat.le_refl _) _
  have hpb0 : pb < W0.heap.size := (Array.getElem?_eq_some_iff.1 hblk0).1
  have kk : ∀ W : World, W.heap[pb]? = some (.cells #[.string (str code), .slice A1 n1 c1, .int .i64 tick, .int .i64 low, .int .i64 high, .int .i64 wide, .int .i64 rule, .int .i64 top, .int .i64 least, .int .i64 part, .slice A2 n2 c2] 25 (0, 0)) → W.cell? ⟨pb, 0, none⟩ = some (.string (str code)) ∧ W.cell? ⟨pb, 1, none⟩ = some (.slice A1 n1 c1) ∧ W.cell? ⟨pb, 2, none⟩ = some (.int .i64 tick) ∧ W.cell? ⟨pb, 3, none⟩ = some (.int .i64 low) ∧ W.cell? ⟨pb, 4, none⟩ = some (.int .i64 high) ∧ W.cell? ⟨pb, 5, none⟩ = some (.int .i64 wide) ∧ W.cell? ⟨pb, 6, none⟩ = some (.int .i64 rule) ∧ W.cell? ⟨pb, 7, none⟩ = some (.int .i64 top) ∧ W.cell? ⟨pb, 8, none⟩ = some (.int .i64 least) ∧ W.cell? ⟨pb, 9, none⟩ = some (.int .i64 part) ∧ W.cell? ⟨pb, 10, none⟩ = some (.slice A2 n2 c2) := by
    intro W hb
    refine ⟨?_, ?_, ?_, ?_, ?_, ?_, ?_, ?_, ?_, ?_, ?_⟩ <;> (rw [Lib.cell_of_heap hb]; rfl)
  replace kk := Lib.hid kk
  replace eW0 := Lib.hid eW0
  replace epb := Lib.hid epb
  have a0 : (w.alloc (.cells #[.string (str code), .slice A1 n1 c1, .int .i64 tick, .int .i64 low, .int .i64 high, .int .i64 wide, .int .i64 rule, .int .i64 top, .int .i64 least, .int .i64 part, .slice A2 n2 c2] 25)).cell? ⟨w.heap.size, 0, none⟩ = some (.string (str code)) := by
    rw [eW0.out, epb.out]; exact (kk.out W0 hblk0).1
  have a1 : (w.alloc (.cells #[.string (str code), .slice A1 n1 c1, .int .i64 tick, .int .i64 low, .int .i64 high, .int .i64 wide, .int .i64 rule, .int .i64 top, .int .i64 least, .int .i64 part, .slice A2 n2 c2] 25)).cell? ⟨w.heap.size, 1, none⟩ = some (.slice A1 n1 c1) := by
    rw [eW0.out, epb.out]; exact (kk.out W0 hblk0).2.1
  have a2 : (w.alloc (.cells #[.string (str code), .slice A1 n1 c1, .int .i64 tick, .int .i64 low, .int .i64 high, .int .i64 wide, .int .i64 rule, .int .i64 top, .int .i64 least, .int .i64 part, .slice A2 n2 c2] 25)).cell? ⟨w.heap.size, 2, none⟩ = some (.int .i64 tick) := by
    rw [eW0.out, epb.out]; exact (kk.out W0 hblk0).2.2.1
  have a3 : (w.alloc (.cells #[.string (str code), .slice A1 n1 c1, .int .i64 tick, .int .i64 low, .int .i64 high, .int .i64 wide, .int .i64 rule, .int .i64 top, .int .i64 least, .int .i64 part, .slice A2 n2 c2] 25)).cell? ⟨w.heap.size, 3, none⟩ = some (.int .i64 low) := by
    rw [eW0.out, epb.out]; exact (kk.out W0 hblk0).2.2.2.1
  have a4 : (w.alloc (.cells #[.string (str code), .slice A1 n1 c1, .int .i64 tick, .int .i64 low, .int .i64 high, .int .i64 wide, .int .i64 rule, .int .i64 top, .int .i64 least, .int .i64 part, .slice A2 n2 c2] 25)).cell? ⟨w.heap.size, 4, none⟩ = some (.int .i64 high) := by
    rw [eW0.out, epb.out]; exact (kk.out W0 hblk0).2.2.2.2.1
  have a5 : (w.alloc (.cells #[.string (str code), .slice A1 n1 c1, .int .i64 tick, .int .i64 low, .int .i64 high, .int .i64 wide, .int .i64 rule, .int .i64 top, .int .i64 least, .int .i64 part, .slice A2 n2 c2] 25)).cell? ⟨w.heap.size, 5, none⟩ = some (.int .i64 wide) := by
    rw [eW0.out, epb.out]; exact (kk.out W0 hblk0).2.2.2.2.2.1
  have a6 : (w.alloc (.cells #[.string (str code), .slice A1 n1 c1, .int .i64 tick, .int .i64 low, .int .i64 high, .int .i64 wide, .int .i64 rule, .int .i64 top, .int .i64 least, .int .i64 part, .slice A2 n2 c2] 25)).cell? ⟨w.heap.size, 6, none⟩ = some (.int .i64 rule) := by
    rw [eW0.out, epb.out]; exact (kk.out W0 hblk0).2.2.2.2.2.2.1
  have a7 : (w.alloc (.cells #[.string (str code), .slice A1 n1 c1, .int .i64 tick, .int .i64 low, .int .i64 high, .int .i64 wide, .int .i64 rule, .int .i64 top, .int .i64 least, .int .i64 part, .slice A2 n2 c2] 25)).cell? ⟨w.heap.size, 7, none⟩ = some (.int .i64 top) := by
    rw [eW0.out, epb.out]; exact (kk.out W0 hblk0).2.2.2.2.2.2.2.1
  have a8 : (w.alloc (.cells #[.string (str code), .slice A1 n1 c1, .int .i64 tick, .int .i64 low, .int .i64 high, .int .i64 wide, .int .i64 rule, .int .i64 top, .int .i64 least, .int .i64 part, .slice A2 n2 c2] 25)).cell? ⟨w.heap.size, 8, none⟩ = some (.int .i64 least) := by
    rw [eW0.out, epb.out]; exact (kk.out W0 hblk0).2.2.2.2.2.2.2.2.1
  have a9 : (w.alloc (.cells #[.string (str code), .slice A1 n1 c1, .int .i64 tick, .int .i64 low, .int .i64 high, .int .i64 wide, .int .i64 rule, .int .i64 top, .int .i64 least, .int .i64 part, .slice A2 n2 c2] 25)).cell? ⟨w.heap.size, 9, none⟩ = some (.int .i64 part) := by
    rw [eW0.out, epb.out]; exact (kk.out W0 hblk0).2.2.2.2.2.2.2.2.2.1
  have a10 : (w.alloc (.cells #[.string (str code), .slice A1 n1 c1, .int .i64 tick, .int .i64 low, .int .i64 high, .int .i64 wide, .int .i64 rule, .int .i64 top, .int .i64 least, .int .i64 part, .slice A2 n2 c2] 25)).cell? ⟨w.heap.size, 10, none⟩ = some (.slice A2 n2 c2) := by
    rw [eW0.out, epb.out]; exact (kk.out W0 hblk0).2.2.2.2.2.2.2.2.2.2
  go_enter Try.func60, Try.ntmps60
  by_cases q1 : n2 = n1
  · have f1 : ((n2 : Int) != (n1 : Int)) = false := by simp; omega
    have q0 := Lib.hid q1
    clear q1
    go_wp2_with fail
    rw [eW0.out]
    rw [epb.out]
    clear a0 a1 a2 a3 a4 a5 a6 a7 a8 a9 a10 eW0
    obtain ⟨k0, k1, k2, k3, k4, k5, k6, k7, k8, k9, k10⟩ := kk.out W0 hblk0
    have HO := Lib.hid (HO2.out W0 hB0)
    go_loopw [15] (fun i wr => ∃ k : Nat, i = .int .i64 k ∧ k ≤ n2 ∧ Hid (∀ j, j < k → low ≤ R j ∧ R j ≤ high) ∧ wr = W0) (fun i _ => n2 - (intOf i).toNat)
    case atStart => exact ⟨0, rfl, by omega, Lib.hid (fun j h => absurd h (by omega)), rfl⟩
    case round =>
      obtain ⟨k, rfl, hk, hall, rfl⟩ := hrel
      by_cases hlt : k < n2
      · have e1 : decide ((k : Int) < (n2 : Int)) = true := decide_eq_true (by omega)
        have e2 : (k : Int) < (n2 : Int) := by omega
        obtain ⟨mb, mo, rfl, hc, hr1, hr2⟩ := HO.out k hlt
        have HM := Inside_any (R k) low high wr
        by_cases x0 : low ≤ R k ∧ R k ≤ high
        · rw [show insB (R k) low high = true from decide_eq_true x0] at HM
          have hnx := Lib.hid (show ∀ j, j < k + 1 → low ≤ R j ∧ R j ≤ high from fun j hj => by
            by_cases e : j = k
            · subst e; exact x0
            · exact hall.out j (by omega))
          clear x0 hall
          replace HM := Lib.hid HM
          go_wp2_with fail
          refine HM.out.mono ?_
          clear HM
          rintro e w' ⟨rfl, rfl⟩
          go_wp2_with fail
          go_roundw
          case rel => exact ⟨k + 1, by go_num, by omega, hnx, by first | rfl | trivial⟩
          case measure => simp [intOf]; omega
        · rw [show insB (R k) low high = false from decide_eq_false x0] at HM
          have hv2 := Lib.hid (show v = false from by rw [← hv.out]; exact decide_eq_false (fun h => x0 (h.2 k hlt)))
          clear x0 hall
          replace HM := Lib.hid HM
          go_wp2_with fail
          refine HM.out.mono ?_
          clear HM
          rintro e w' ⟨rfl, rfl⟩
          go_wp2_with fail
          go_ret
          exact ⟨by rw [hv2.out]; rfl, hB0⟩
      · obtain rfl : n2 = k := by omega
        have e1 : decide ((n2 : Int) < (n2 : Int)) = false := decide_eq_false (by omega)
        have hv2 := Lib.hid (show v = true from by rw [← hv.out]; exact decide_eq_true ⟨q0.out, hall.out⟩)
        clear hall
        go_wp2_with fail
        go_ret
        exact ⟨by rw [hv2.out]; rfl, hB0⟩
  · have f1 : ((n2 : Int) != (n1 : Int)) = true := by simp; omega
    have hv2 := Lib.hid (show v = false from by rw [← hv.out]; exact decide_eq_false (fun h => q1 h.1))
    clear q1
    go_wp2_with fail
    rw [eW0.out]
    go_ret
    exact ⟨by rw [hv2.out]; rfl, hB0⟩

def shB (p : PD) : Bool := decide ((0 ≤ p.top ∧ p.top ≤ 1000000) ∧ (1 ≤ p.least ∧ p.least ≤ 1000) ∧ (0 ≤ p.part ∧ p.part ≤ 100))
set_option maxRecDepth 100000 in
set_option maxHeartbeats 1600000 in
theorem RightSharing_any (p : PD) (w : World) (h : Hid (p.Ok w)) :
    Calls Try.prog 61 #[p.val] w fun e w' => e = .returned (.bool (shB p)) ∧ Below w.heap.size w w' := by
  have l1 := h.out.l1
  have m1 := h.out.m1
  have l2 := h.out.l2
  have m2 := h.out.m2
  have hco := h.out.code
  obtain ⟨ti1, ti2⟩ := h.out.tick
  obtain ⟨lo1, lo2⟩ := h.out.low
  obtain ⟨hg1, hg2⟩ := h.out.high
  obtain ⟨wi1, wi2⟩ := h.out.wide
  obtain ⟨ru1, ru2⟩ := h.out.rule
  obtain ⟨to1, to2⟩ := h.out.top
  obtain ⟨le1, le2⟩ := h.out.least
  obtain ⟨pa1, pa2⟩ := h.out.part
  have HO1 : Hid (∀ W, Below w.heap.size w W → Nums W p.A1 p.n1 p.Q) := Lib.hid (fun W b => h.out.months.below b)
  have HO2 : Hid (∀ W, Below w.heap.size w W → Nums W p.A2 p.n2 p.R) := Lib.hid (fun W b => h.out.settle.below b)
  obtain ⟨v, hv⟩ : ∃ v, shB p = v := ⟨_, rfl⟩
  rw [hv]
  unfold shB at hv
  clear h
  obtain ⟨code, A1, n1, c1, tick, low, high, wide, rule, top, least, part, A2, n2, c2, Q, R⟩ := p
  simp only at l1 m1 l2 m2 hco ti1 ti2 lo1 lo2 hg1 hg2 wi1 wi2 ru1 ru2 to1 to2 le1 le2 pa1 pa2 HO1 HO2 hv
  replace hv := Lib.hid hv
  show Calls Try.prog 61 #[.agg #[.string (str code), .slice A1 n1 c1, .int .i64 tick, .int .i64 low, .int .i64 high, .int .i64 wide, .int .i64 rule, .int .i64 top, .int .i64 least, .int .i64 part, .slice A2 n2 c2]] w _
  obtain ⟨W0, eW0⟩ : ∃ W0, w.alloc (.cells #[.string (str code), .slice A1 n1 c1, .int .i64 tick, .int .i64 low, .int .i64 high, .int .i64 wide, .int .i64 rule, .int .i64 top, .int .i64 least, .int .i64 part, .slice A2 n2 c2] 25) = W0 := ⟨_, rfl⟩
  obtain ⟨pb, epb⟩ : ∃ pb, w.heap.size = pb := ⟨_, rfl⟩
  have hblk0 : W0.heap[pb]? = some (.cells #[.string (str code), .slice A1 n1 c1, .int .i64 tick, .int .i64 low, .int .i64 high, .int .i64 wide, .int .i64 rule, .int .i64 top, .int .i64 least, .int .i64 part, .slice A2 n2 c2] 25 (0, 0)) := by
    rw [← eW0, ← epb]; exact heap_alloc_new w _
  have hB0 : Below w.heap.size w W0 := by rw [← eW0]; exact (Below.refl _ w).alloc (Nat.le_refl _) _
  have hpb0 : pb < W0.heap.size := (Array.getElem?_eq_some_iff.1 hblk0).1
  have kk : ∀ W : World, W.heap[pb]? = some (.cells #[.string (str code), .slice A1 n1 c1, .int .i64 tick, .int .i64 low, .int .i64 high, .int .i64 wide, .int .i64 rule, .int .i64 top, .int .i64 least, .int .i64 part, .slice A2 n2 c2] 25 (0, 0)) → W.cell? ⟨pb, 0, none⟩ = some (.string (str code)) ∧ W.cell? ⟨pb, 1, none⟩ = some (.slice A1 n1 c1) ∧ W.cell? ⟨pb, 2, none⟩ = some (.int .i64 tick) ∧ W.cell? ⟨pb, 3, none⟩ = some (.int .i64 low) ∧ W.cell? ⟨pb, 4, none⟩ = some (.int .i64 high) ∧ W.cell? ⟨pb, 5, none⟩ = some (.int .i64 wide) ∧ W.cell? ⟨pb, 6, none⟩ = some (.int .i64 rule) ∧ W.cell? ⟨pb, 7, none⟩ = some (.int .i64 top) ∧ W.cell? ⟨pb, 8, none⟩ = some (.int .i64 least) ∧ W.cell? ⟨pb, 9, none⟩ = some (.int .i64 part) ∧ W.cell? ⟨pb, 10, none⟩ = some (.slice A2 n2 c2) := by
    intro W hb
    refine ⟨?_, ?_, ?_, ?_, ?_, ?_, ?_, ?_, ?_, ?_, ?_⟩ <;> (rw [Lib.cell_of_heap hb]; rfl)
  replace kk := Lib.hid kk
  replace eW0 := Lib.hid eW0
  replace epb := Lib.hid epb
  have a0 : (w.alloc (.cells #[.string (str code), .slice A1 n1 c1, .int .i64 tick, .int .i64 low, .int .i64 high, .int .i64 wide, .int .i64 rule, .int .i64 top, .int .i64 least, .int .i64 part, .slice A2 n2 c2] 25)).cell? ⟨w.heap.size, 0, none⟩ = some (.string (str code)) := by
    rw [eW0.out, epb.out]; exact (kk.out W0 hblk0).1
  have a1 : (w.alloc (.cells #[.string (str code), .slice A1 n1 c1, .int .i64 tick, .int .i64 low, .int .i64 high, .int .i64 wide, .int .i64 rule, .int .i64 top, .int .i64 least, .int .i64 part, .slice A2 n2 c2] 25)).cell? ⟨w.heap.size, 1, none⟩ = some (.slice A1 n1 c1) := by
    rw [eW0.out, epb.out]; exact (kk.out W0 hblk0).2.1
  have a2 : (w.alloc (.cells #[.string (str code), .slice A1 n1 c1, .int .i64 tick, .int .i64 low, .int .i64 high, .int .i64 wide, .int .i64 rule, .int .i64 top, .int .i64 least, .int .i64 part, .slice A2 n2 c2] 25)).cell? ⟨w.heap.size, 2, none⟩ = some (.int .i64 tick) := by
    rw [eW0.out, epb.out]; exact (kk.out W0 hblk0).2.2.1
  have a3 : (w.alloc (.cells #[.string (str code), .slice A1 n1 c1, .int .i64 tick, .int .i64 low, .int .i64 high, .int .i64 wide, .int .i64 rule, .int .i64 top, .int .i64 least, .int .i64 part, .slice A2 n2 c2] 25)).cell? ⟨w.heap.size, 3, none⟩ = some (.int .i64 low) := by
    rw [eW0.out, epb.out]; exact (kk.out W0 hblk0).2.2.2.1
  have a4 : (w.alloc (.cells #[.string (str code), .slice A1 n1 c1, .int .i64 tick, .int .i64 low, .int .i64 high, .int .i64 wide, .int .i64 rule, .int .i64 top, .int .i64 least, .int .i64 part, .slice A2 n2 c2] 25)).cell? ⟨w.heap.size, 4, none⟩ = some (.int .i64 high) := by
    rw [eW0.out, epb.out]; exact (kk.out W0 hblk0).2.2.2.2.1
  have a5 : (w.alloc (.cells #[.string (str code), .slice A1 n1 c1, .int .i64 tick, .int .i64 low, .int .i64 high, .int .i64 wide, .int .i64 rule, .int .i64 top, .int .i64 least, .int .i64 part, .slice A2 n2 c2] 25)).cell? ⟨w.heap.size, 5, none⟩ = some (.int .i64 wide) := by
    rw [eW0.out, epb.out]; exact (kk.out W0 hblk0).2.2.2.2.2.1
  have a6 : (w.alloc (.cells #[.string (str code), .slice A1 n1 c1, .int .i64 tick, .int .i64 low, .int .i64 high, .int .i64 wide, .int .i64 rule, .int .i64 top, .int .i64 least, .int .i64 part, .slice A2 n2 c2] 25)).cell? ⟨w.heap.size, 6, none⟩ = some (.int .i64 rule) := by
    rw [eW0.out, epb.out]; exact (kk.out W0 hblk0).2.2.2.2.2.2.1
  have a7 : (w.alloc (.cells #[.string (str code), .slice A1 n1 c1, .int .i64 tick, .int .i64 low, .int .i64 high, .int .i64 wide, .int .i64 rule, .int .i64 top, .int .i64 least, .int .i64 part, .slice A2 n2 c2] 25)).cell? ⟨w.heap.size, 7, none⟩ = some (.int .i64 top) := by
    rw [eW0.out, epb.out]; exact (kk.out W0 hblk0).2.2.2.2.2.2.2.1
  have a8 : (w.alloc (.cells #[.string (str code), .slice A1 n1 c1, .int .i64 tick, .int .i64 low, .int .i64 high, .int .i64 wide, .int .i64 rule, .int .i64 top, .int .i64 least, .int .i64 part, .slice A2 n2 c2] 25)).cell? ⟨w.heap.size, 8, none⟩ = some (.int .i64 least) := by
    rw [eW0.out, epb.out]; exact (kk.out W0 hblk0).2.2.2.2.2.2.2.2.1
  have a9 : (w.alloc (.cells #[.string (str code), .slice A1 n1 c1, .int .i64 tick, .int .i64 low, .int .i64 high, .int .i64 wide, .int .i64 rule, .int .i64 top, .int .i64 least, .int .i64 part, .slice A2 n2 c2] 25)).cell? ⟨w.heap.size, 9, none⟩ = some (.int .i64 part) := by
    rw [eW0.out, epb.out]; exact (kk.out W0 hblk0).2.2.2.2.2.2.2.2.2.1
  have a10 : (w.alloc (.cells #[.string (str code), .slice A1 n1 c1, .int .i64 tick, .int .i64 low, .int .i64 high, .int .i64 wide, .int .i64 rule, .int .i64 top, .int .i64 least, .int .i64 part, .slice A2 n2 c2] 25)).cell? ⟨w.heap.size, 10, none⟩ = some (.slice A2 n2 c2) := by
    rw [eW0.out, epb.out]; exact (kk.out W0 hblk0).2.2.2.2.2.2.2.2.2.2
  go_enter Try.func61, Try.ntmps61
  go_wp2_with fail
  rw [eW0.out]
  rw [epb.out]
  clear a0 a1 a2 a3 a4 a5 a6 a7 a8 a9 a10 eW0
  obtain ⟨k0, k1, k2, k3, k4, k5, k6, k7, k8, k9, k10⟩ := kk.out W0 hblk0
  have HI := Inside_any top 0 1000000 W0
  by_cases y0 : 0 ≤ top ∧ top ≤ 1000000
  · rw [show insB top 0 1000000 = true from decide_eq_true y0] at HI
    refine HI.mono ?_
    clear HI
    rintro e w' ⟨rfl, rfl⟩
    go_wp2_with fail
    have HI := Inside_any least 1 1000 W0
    by_cases y1 : 1 ≤ least ∧ least ≤ 1000
    · rw [show insB least 1 1000 = true from decide_eq_true y1] at HI
      refine HI.mono ?_
      clear HI
      rintro e w' ⟨rfl, rfl⟩
      go_wp2_with fail
      have HI := Inside_any part 0 100 W0
      by_cases y2 : 0 ≤ part ∧ part ≤ 100
      · rw [show insB part 0 100 = true from decide_eq_true y2] at HI
        refine HI.mono ?_
        clear HI
        rintro e w' ⟨rfl, rfl⟩
        have hv2 := Lib.hid (show v = true from by rw [← hv.out]; exact decide_eq_true ⟨y0, y1, y2⟩)
        clear y0 y1 y2
        go_wp2_with fail
        go_ret
        exact ⟨by rw [hv2.out]; rfl, hB0⟩
      · rw [show insB part 0 100 = false from decide_eq_false y2] at HI
        refine HI.mono ?_
        clear HI
        rintro e w' ⟨rfl, rfl⟩
        have hv2 := Lib.hid (show v = false from by rw [← hv.out]; exact decide_eq_false (fun h => y2 h.2.2))
        clear y0 y1 y2
        go_wp2_with fail
        go_ret
        exact ⟨by rw [hv2.out]; rfl, hB0⟩
    · rw [show insB least 1 1000 = false from decide_eq_false y1] at HI
      refine HI.mono ?_
      clear HI
      rintro e w' ⟨rfl, rfl⟩
      have hv2 := Lib.hid (show v = false from by rw [← hv.out]; exact decide_eq_false (fun h => y1 h.2.1))
      clear y0 y1
      go_wp2_with fail
      go_ret
      exact ⟨by rw [hv2.out]; rfl, hB0⟩
  · rw [show insB top 0 1000000 = false from decide_eq_false y0] at HI
    refine HI.mono ?_
    clear HI
    rintro e w' ⟨rfl, rfl⟩
    have hv2 := Lib.hid (show v = false from by rw [← hv.out]; exact decide_eq_false (fun h => y0 h.1))
    clear y0
    go_wp2_with fail
    go_ret
    exact ⟨by rw [hv2.out]; rfl, hB0⟩
end Go.Proofs.Ytdeofifidjbolaa
namespace Go.Proofs.Ytdeofifidjbolaa
open Go.RowKit
set_option linter.unusedVariables false
set_option linter.unusedSimpArgs false

/-- What Check answers, in the program's own stages. -/
theorem chk_eq (p : PD) : chk p = if prodB p.code = false then 12 else if rmB p.n1 p.Q = false then 1 else if otB p = false then 22 else if rbB p = false then 23 else if rsB p = false then 1 else if p.rule < 1 ∨ 3 < p.rule then 31 else if shB p = false then 24 else 0 := by
  obtain ⟨e1, e2, e3, e4, e5, e6, e7, e8, e9, T0, T1, T2, T3, T4, T5, T6, T7, T8, T9⟩ := chk_chain p
  cases a0 : prodB p.code
  · rw [if_pos rfl]; exact T0.1 a0
  rw [if_neg (by decide), T0.2 a0]
  cases a1 : rmB p.n1 p.Q
  · rw [if_pos rfl]
    have hh := of_decide_eq_false a1
    by_cases c : p.n1 < 2 ∨ 6 < p.n1
    · exact T1.1 c
    · rw [T1.2 c]
      exact T2.1 (fun g => hh ⟨by omega, by omega, g⟩)
  have h1 := of_decide_eq_true a1
  rw [if_neg (by decide), T1.2 (by omega), T2.2 h1.2.2]
  cases a2 : otB p
  · rw [if_pos rfl]
    have hh := of_decide_eq_false a2
    by_cases c : p.tick < 1 ∨ 1000 < p.tick ∨ p.low.tmod p.tick ≠ 0 ∨ p.high.tmod p.tick ≠ 0 ∨ p.wide.tmod p.tick ≠ 0
    · exact T3.1 c
    · rw [T3.2 c]
      exact T4.1 (fun g => hh ⟨by omega, by omega, g, by omega, by omega, by omega⟩)
  have h2 := of_decide_eq_true a2
  rw [if_neg (by decide), T3.2 (by omega), T4.2 h2.2.2.1]
  cases a3 : rbB p
  · rw [if_pos rfl]
    have hh := of_decide_eq_false a3
    exact T5.1 (Decidable.byContradiction hh)
  have h3 := of_decide_eq_true a3
  rw [if_neg (by decide), T5.2 h3]
  cases a4 : rsB p
  · rw [if_pos rfl]
    have hh := of_decide_eq_false a4
    by_cases c : p.n2 ≠ p.n1
    · exact T6.1 c
    · rw [T6.2 c]
      exact T7.1 (fun g => hh ⟨by omega, g⟩)
  have h4 := of_decide_eq_true a4
  rw [if_neg (by decide), T6.2 (by omega), T7.2 h4.2]
  by_cases c5 : p.rule < 1 ∨ 3 < p.rule
  · rw [if_pos c5]; exact T8.1 c5
  rw [if_neg c5, T8.2 c5]
  cases a6 : shB p
  · rw [if_pos rfl]
    have hh := of_decide_eq_false a6
    exact T9.1 (by omega)
  · rw [if_neg (by decide)]
    have hh := of_decide_eq_true a6
    exact T9.2 (by omega)
set_option maxRecDepth 100000 in
set_option maxHeartbeats 1600000 in
theorem PCheck_any (p : PD) (w : World) (h : Hid (p.Ok w)) :
    Calls Try.prog 39 #[p.val] w fun e w' => e = .returned (.int .i64 (chk p)) ∧ Below w.heap.size w w' := by
  obtain ⟨ot, eot⟩ : ∃ v, otB p = v := ⟨_, rfl⟩
  have Hot : Hid (∀ W, Below w.heap.size w W → Calls Try.prog 58 #[p.val] W fun e w' => e = .returned (.bool ot) ∧ Below W.heap.size W w') := Lib.hid (fun W b => by rw [← eot]; exact OnTick_any p W (Lib.hid (h.out.below b)))
  obtain ⟨rb, erb⟩ : ∃ v, rbB p = v := ⟨_, rfl⟩
  have Hrb : Hid (∀ W, Below w.heap.size w W → Calls Try.prog 59 #[p.val] W fun e w' => e = .returned (.bool rb) ∧ Below W.heap.size W w') := Lib.hid (fun W b => by rw [← erb]; exact RightBand_any p W (Lib.hid (h.out.below b)))
  obtain ⟨rs, ers⟩ : ∃ v, rsB p = v := ⟨_, rfl⟩
  have Hrs : Hid (∀ W, Below w.heap.size w W → Calls Try.prog 60 #[p.val] W fun e w' => e = .returned (.bool rs) ∧ Below W.heap.size W w') := Lib.hid (fun W b => by rw [← ers]; exact RightSettle_any p W (Lib.hid (h.out.below b)))
  obtain ⟨sh, esh⟩ : ∃ v, shB p = v := ⟨_, rfl⟩
  have Hsh : Hid (∀ W, Below w.heap.size w W → Calls Try.prog 61 #[p.val] W fun e w' => e = .returned (.bool sh) ∧ Below W.heap.size W w') := Lib.hid (fun W b => by rw [← esh]; exact RightSharing_any p W (Lib.hid (h.out.below b)))
  obtain ⟨v, hv⟩ : ∃ v, chk p = v := ⟨_, rfl⟩
  rw [hv]
  rw [chk_eq, eot, erb, ers, esh] at hv
  clear eot erb ers esh
  have l1 := h.out.l1
  have m1 := h.out.m1
  have l2 := h.out.l2
  have m2 := h.out.m2
  have hco := h.out.code
  obtain ⟨ti1, ti2⟩ := h.out.tick
  obtain ⟨lo1, lo2⟩ := h.out.low
  obtain ⟨hg1, hg2⟩ := h.out.high
  obtain ⟨wi1, wi2⟩ := h.out.wide
  obtain ⟨ru1, ru2⟩ := h.out.rule
  obtain ⟨to1, to2⟩ := h.out.top
  obtain ⟨le1, le2⟩ := h.out.least
  obtain ⟨pa1, pa2⟩ := h.out.part
  have HO1 : Hid (∀ W, Below w.heap.size w W → Nums W p.A1 p.n1 p.Q) := Lib.hid (fun W b => h.out.months.below b)
  have HO2 : Hid (∀ W, Below w.heap.size w W → Nums W p.A2 p.n2 p.R) := Lib.hid (fun W b => h.out.settle.below b)
  clear h
  obtain ⟨code, A1, n1, c1, tick, low, high, wide, rule, top, least, part, A2, n2, c2, Q, R⟩ := p
  simp only at l1 m1 l2 m2 hco ti1 ti2 lo1 lo2 hg1 hg2 wi1 wi2 ru1 ru2 to1 to2 le1 le2 pa1 pa2 HO1 HO2 hv
  replace hv := Lib.hid hv
  replace Hot : Hid (∀ W, Below w.heap.size w W → Calls Try.prog 58 #[.agg #[.string (str code), .slice A1 n1 c1, .int .i64 tick, .int .i64 low, .int .i64 high, .int .i64 wide, .int .i64 rule, .int .i64 top, .int .i64 least, .int .i64 part, .slice A2 n2 c2]] W fun e w' => e = .returned (.bool ot) ∧ Below W.heap.size W w') := Hot
  replace Hrb : Hid (∀ W, Below w.heap.size w W → Calls Try.prog 59 #[.agg #[.string (str code), .slice A1 n1 c1, .int .i64 tick, .int .i64 low, .int .i64 high, .int .i64 wide, .int .i64 rule, .int .i64 top, .int .i64 least, .int .i64 part, .slice A2 n2 c2]] W fun e w' => e = .returned (.bool rb) ∧ Below W.heap.size W w') := Hrb
  replace Hrs : Hid (∀ W, Below w.heap.size w W → Calls Try.prog 60 #[.agg #[.string (str code), .slice A1 n1 c1, .int .i64 tick, .int .i64 low, .int .i64 high, .int .i64 wide, .int .i64 rule, .int .i64 top, .int .i64 least, .int .i64 part, .slice A2 n2 c2]] W fun e w' => e = .returned (.bool rs) ∧ Below W.heap.size W w') := Hrs
  replace Hsh : Hid (∀ W, Below w.heap.size w W → Calls Try.prog 61 #[.agg #[.string (str code), .slice A1 n1 c1, .int .i64 tick, .int .i64 low, .int .i64 high, .int .i64 wide, .int .i64 rule, .int .i64 top, .int .i64 least, .int .i64 part, .slice A2 n2 c2]] W fun e w' => e = .returned (.bool sh) ∧ Below W.heap.size W w') := Hsh
  show Calls Try.prog 39 #[.agg #[.string (str code), .slice A1 n1 c1, .int .i64 tick, .int .i64 low, .int .i64 high, .int .i64 wide, .int .i64 rule, .int .i64 top, .int .i64 least, .int .i64 part, .slice A2 n2 c2]] w _
  obtain ⟨W0, eW0⟩ : ∃ W0, w.alloc (.cells #[.string (str code), .slice A1 n1 c1, .int .i64 tick, .int .i64 low, .int .i64 high, .int .i64 wide, .int .i64 rule, .int .i64 top, .int .i64 least, .int .i64 part, .slice A2 n2 c2] 25) = W0 := ⟨_, rfl⟩
  obtain ⟨pb, epb⟩ : ∃ pb, w.heap.size = pb := ⟨_, rfl⟩
  have hblk0 : W0.heap[pb]? = some (.cells #[.string (str code), .slice A1 n1 c1, .int .i64 tick, .int .i64 low, .int .i64 high, .int .i64 wide, .int .i64 rule, .int .i64 top, .int .i64 least, .int .i64 part, .slice A2 n2 c2] 25 (0, 0)) := by
    rw [← eW0, ← epb]; exact heap_alloc_new w _
  have hB0 : Below w.heap.size w W0 := by rw [← eW0]; exact (Below.refl _ w).alloc (Nat.le_refl _) _
  have hpb0 : pb < W0.heap.size := (Array.getElem?_eq_some_iff.1 hblk0).1
  have kk : ∀ W : World, W.heap[pb]? = some (.cells #[.string (str code), .slice A1 n1 c1, .int .i64 tick, .int .i64 low, .int .i64 high, .int .i64 wide, .int .i64 rule, .int .i64 top, .int .i64 least, .int .i64 part, .slice A2 n2 c2] 25 (0, 0)) → W.cell? ⟨pb, 0, none⟩ = some (.string (str code)) ∧ W.cell? ⟨pb, 1, none⟩ = some (.slice A1 n1 c1) ∧ W.cell? ⟨pb, 2, none⟩ = some (.int .i64 tick) ∧ W.cell? ⟨pb, 3, none⟩ = some (.int .i64 low) ∧ W.cell? ⟨pb, 4, none⟩ = some (.int .i64 high) ∧ W.cell? ⟨pb, 5, none⟩ = some (.int .i64 wide) ∧ W.cell? ⟨pb, 6, none⟩ = some (.int .i64 rule) ∧ W.cell? ⟨pb, 7, none⟩ = some (.int .i64 top) ∧ W.cell? ⟨pb, 8, none⟩ = some (.int .i64 least) ∧ W.cell? ⟨pb, 9, none⟩ = some (.int .i64 part) ∧ W.cell? ⟨pb, 10, none⟩ = some (.slice A2 n2 c2) := by
    intro W hb
    refine ⟨?_, ?_, ?_, ?_, ?_, ?_, ?_, ?_, ?_, ?_, ?_⟩ <;> (rw [Lib.cell_of_heap hb]; rfl)
  replace kk := Lib.hid kk
  replace eW0 := Lib.hid eW0
  replace epb := Lib.hid epb
  have a0 : (w.alloc (.cells #[.string (str code), .slice A1 n1 c1, .int .i64 tick, .int .i64 low, .int .i64 high, .int .i64 wide, .int .i64 rule, .int .i64 top, .int .i64 least, .int .i64 part, .slice A2 n2 c2] 25)).cell? ⟨w.heap.size, 0, none⟩ = some (.string (str code)) := by
    rw [eW0.out, epb.out]; exact (kk.out W0 hblk0).1
  have a1 : (w.alloc (.cells #[.string (str code), .slice A1 n1 c1, .int .i64 tick, .int .i64 low, .int .i64 high, .int .i64 wide, .int .i64 rule, .int .i64 top, .int .i64 least, .int .i64 part, .slice A2 n2 c2] 25)).cell? ⟨w.heap.size, 1, none⟩ = some (.slice A1 n1 c1) := by
    rw [eW0.out, epb.out]; exact (kk.out W0 hblk0).2.1
  have a2 : (w.alloc (.cells #[.string (str code), .slice A1 n1 c1, .int .i64 tick, .int .i64 low, .int .i64 high, .int .i64 wide, .int .i64 rule, .int .i64 top, .int .i64 least, .int .i64 part, .slice A2 n2 c2] 25)).cell? ⟨w.heap.size, 2, none⟩ = some (.int .i64 tick) := by
    rw [eW0.out, epb.out]; exact (kk.out W0 hblk0).2.2.1
  have a3 : (w.alloc (.cells #[.string (str code), .slice A1 n1 c1, .int .i64 tick, .int .i64 low, .int .i64 high, .int .i64 wide, .int .i64 rule, .int .i64 top, .int .i64 least, .int .i64 part, .slice A2 n2 c2] 25)).cell? ⟨w.heap.size, 3, none⟩ = some (.int .i64 low) := by
    rw [eW0.out, epb.out]; exact (kk.out W0 hblk0).2.2.2.1
  have a4 : (w.alloc (.cells #[.string (str code), .slice A1 n1 c1, .int .i64 tick, .int .i64 low, .int .i64 high, .int .i64 wide, .int .i64 rule, .int .i64 top, .int .i64 least, .int .i64 part, .slice A2 n2 c2] 25)).cell? ⟨w.heap.size, 4, none⟩ = some (.int .i64 high) := by
    rw [eW0.out, epb.out]; exact (kk.out W0 hblk0).2.2.2.2.1
  have a5 : (w.alloc (.cells #[.string (str code), .slice A1 n1 c1, .int .i64 tick, .int .i64 low, .int .i64 high, .int .i64 wide, .int .i64 rule, .int .i64 top, .int .i64 least, .int .i64 part, .slice A2 n2 c2] 25)).cell? ⟨w.heap.size, 5, none⟩ = some (.int .i64 wide) := by
    rw [eW0.out, epb.out]; exact (kk.out W0 hblk0).2.2.2.2.2.1
  have a6 : (w.alloc (.cells #[.string (str code), .slice A1 n1 c1, .int .i64 tick, .int .i64 low, .int .i64 high, .int .i64 wide, .int .i64 rule, .int .i64 top, .int .i64 least, .int .i64 part, .slice A2 n2 c2] 25)).cell? ⟨w.heap.size, 6, none⟩ = some (.int .i64 rule) := by
    rw [eW0.out, epb.out]; exact (kk.out W0 hblk0).2.2.2.2.2.2.1
  have a7 : (w.alloc (.cells #[.string (str code), .slice A1 n1 c1, .int .i64 tick, .int .i64 low, .int .i64 high, .int .i64 wide, .int .i64 rule, .int .i64 top, .int .i64 least, .int .i64 part, .slice A2 n2 c2] 25)).cell? ⟨w.heap.size, 7, none⟩ = some (.int .i64 top) := by
    rw [eW0.out, epb.out]; exact (kk.out W0 hblk0).2.2.2.2.2.2.2.1
  have a8 : (w.alloc (.cells #[.string (str code), .slice A1 n1 c1, .int .i64 tick, .int .i64 low, .int .i64 high, .int .i64 wide, .int .i64 rule, .int .i64 top, .int .i64 least, .int .i64 part, .slice A2 n2 c2] 25)).cell? ⟨w.heap.size, 8, none⟩ = some (.int .i64 least) := by
    rw [eW0.out, epb.out]; exact (kk.out W0 hblk0).2.2.2.2.2.2.2.2.1
  have a9 : (w.alloc (.cells #[.string (str code), .slice A1 n1 c1, .int .i64 tick, .int .i64 low, .int .i64 high, .int .i64 wide, .int .i64 rule, .int .i64 top, .int .i64 least, .int .i64 part, .slice A2 n2 c2] 25)).cell? ⟨w.heap.size, 9, none⟩ = some (.int .i64 part) := by
    rw [eW0.out, epb.out]; exact (kk.out W0 hblk0).2.2.2.2.2.2.2.2.2.1
  have a10 : (w.alloc (.cells #[.string (str code), .slice A1 n1 c1, .int .i64 tick, .int .i64 low, .int .i64 high, .int .i64 wide, .int .i64 rule, .int .i64 top, .int .i64 least, .int .i64 part, .slice A2 n2 c2] 25)).cell? ⟨w.heap.size, 10, none⟩ = some (.slice A2 n2 c2) := by
    rw [eW0.out, epb.out]; exact (kk.out W0 hblk0).2.2.2.2.2.2.2.2.2.2
  go_enter Try.func39, Try.ntmps39
  go_wp2_with fail
  rw [eW0.out]
  rw [epb.out]
  clear a0 a1 a2 a3 a4 a5 a6 a7 a8 a9 a10 eW0
  obtain ⟨k0, k1, k2, k3, k4, k5, k6, k7, k8, k9, k10⟩ := kk.out W0 hblk0
  have HX := Product_any code W0
  cases q : prodB code
  case true =>
    replace hv := hv.out
    rw [q] at HX hv
    rw [if_neg (by decide)] at hv
    replace hv := Lib.hid hv
    refine HX.mono ?_
    clear HX
    rintro e w1 ⟨rfl, b1⟩
    have hblk1 : w1.heap[pb]? = _ := (b1.block pb hpb0).trans hblk0
    have hB1 := hB0.trans (b1.mono hB0.size)
    have hpb1 : pb < w1.heap.size := (Array.getElem?_eq_some_iff.1 hblk1).1
    clear k0 k1 k2 k3 k4 k5 k6 k7 k8 k9 k10
    obtain ⟨k0, k1, k2, k3, k4, k5, k6, k7, k8, k9, k10⟩ := kk.out w1 hblk1
    clear hblk0 hpb0 hB0 b1
    go_wp2_with fail
    have HX := RightMonths_any A1 n1 c1 Q w1 (Lib.hid (HO1.out w1 hB1)) l1 m1
    cases q : rmB n1 Q
    case true =>
      replace hv := hv.out
      rw [q] at HX hv
      rw [if_neg (by decide)] at hv
      replace hv := Lib.hid hv
      refine HX.mono ?_
      clear HX
      rintro e w' ⟨rfl, rfl⟩
      go_wp2_with fail
      have HX := Hot.out w1 hB1
      cases ot
      case true =>
        replace hv := hv.out
        rw [if_neg (by decide)] at hv
        replace hv := Lib.hid hv
        refine HX.mono ?_
        clear HX
        rintro e w2 ⟨rfl, b2⟩
        have hblk2 : w2.heap[pb]? = _ := (b2.block pb hpb1).trans hblk1
        have hB2 := hB1.trans (b2.mono hB1.size)
        have hpb2 : pb < w2.heap.size := (Array.getElem?_eq_some_iff.1 hblk2).1
        clear k0 k1 k2 k3 k4 k5 k6 k7 k8 k9 k10
        obtain ⟨k0, k1, k2, k3, k4, k5, k6, k7, k8, k9, k10⟩ := kk.out w2 hblk2
        clear hblk1 hpb1 hB1 b2
        go_wp2_with fail
        have HX := Hrb.out w2 hB2
        cases rb
        case true =>
          replace hv := hv.out
          rw [if_neg (by decide)] at hv
          replace hv := Lib.hid hv
          refine HX.mono ?_
          clear HX
          rintro e w3 ⟨rfl, b3⟩
          have hblk3 : w3.heap[pb]? = _ := (b3.block pb hpb2).trans hblk2
          have hB3 := hB2.trans (b3.mono hB2.size)
          have hpb3 : pb < w3.heap.size := (Array.getElem?_eq_some_iff.1 hblk3).1
          clear k0 k1 k2 k3 k4 k5 k6 k7 k8 k9 k10
          obtain ⟨k0, k1, k2, k3, k4, k5, k6, k7, k8, k9, k10⟩ := kk.out w3 hblk3
          clear hblk2 hpb2 hB2 b3
          go_wp2_with fail
          have HX := Hrs.out w3 hB3
          cases rs
          case true =>
            replace hv := hv.out
            rw [if_neg (by decide)] at hv
            replace hv := Lib.hid hv
            refine HX.mono ?_
            clear HX
            rintro e w4 ⟨rfl, b4⟩
            have hblk4 : w4.heap[pb]? = _ := (b4.block pb hpb3).trans hblk3
            have hB4 := hB3.trans (b4.mono hB3.size)
            have hpb4 : pb < w4.heap.size := (Array.getElem?_eq_some_iff.1 hblk4).1
            clear k0 k1 k2 k3 k4 k5 k6 k7 k8 k9 k10
            obtain ⟨k0, k1, k2, k3, k4, k5, k6, k7, k8, k9, k10⟩ := kk.out w4 hblk4
            clear hblk3 hpb3 hB3 b4
            by_cases q : ¬ rule < 1
            · have d1 : decide (rule < 1) = false := decide_eq_false q
              by_cases q2 : ¬ (3 : Int) < rule
              · have d2 : decide ((3 : Int) < rule) = false := decide_eq_false q2
                replace hv := hv.out
                rw [if_neg (by omega)] at hv
                replace hv := Lib.hid hv
                clear q q2
                go_wp2_with fail
                have HX := Hsh.out w4 hB4
                cases sh
                case true =>
                  replace hv := hv.out
                  rw [if_neg (by decide)] at hv
                  replace hv := Lib.hid hv
                  refine HX.mono ?_
                  clear HX
                  rintro e w5 ⟨rfl, b5⟩
                  have hblk5 : w5.heap[pb]? = _ := (b5.block pb hpb4).trans hblk4
                  have hB5 := hB4.trans (b5.mono hB4.size)
                  have hpb5 : pb < w5.heap.size := (Array.getElem?_eq_some_iff.1 hblk5).1
                  clear k0 k1 k2 k3 k4 k5 k6 k7 k8 k9 k10
                  obtain ⟨k0, k1, k2, k3, k4, k5, k6, k7, k8, k9, k10⟩ := kk.out w5 hblk5
                  clear hblk4 hpb4 hB4 b5
                  replace hv := Lib.hid hv.out.symm
                  clear hblk5 hpb5
                  go_wp2_with fail
                  go_ret
                  exact ⟨by rw [hv.out]; rfl, hB5⟩
                case false =>
                  replace hv := hv.out
                  rw [if_pos rfl] at hv
                  replace hv := Lib.hid hv
                  refine HX.mono ?_
                  clear HX
                  rintro e w5 ⟨rfl, b5⟩
                  have hblk5 : w5.heap[pb]? = _ := (b5.block pb hpb4).trans hblk4
                  have hB5 := hB4.trans (b5.mono hB4.size)
                  have hpb5 : pb < w5.heap.size := (Array.getElem?_eq_some_iff.1 hblk5).1
                  clear k0 k1 k2 k3 k4 k5 k6 k7 k8 k9 k10
                  obtain ⟨k0, k1, k2, k3, k4, k5, k6, k7, k8, k9, k10⟩ := kk.out w5 hblk5
                  clear hblk4 hpb4 hB4 b5
                  replace hv := Lib.hid hv.out.symm
                  clear hblk5 hpb5
                  go_wp2_with fail
                  go_ret
                  exact ⟨by rw [hv.out]; rfl, hB5⟩
              · have d2 : decide ((3 : Int) < rule) = true := decide_eq_true (Decidable.byContradiction q2)
                replace hv := hv.out
                rw [if_pos (.inr (Decidable.byContradiction q2))] at hv
                clear q q2
                replace hv := Lib.hid hv.symm
                clear hblk4 hpb4
                go_wp2_with fail
                go_ret
                exact ⟨by rw [hv.out]; rfl, hB4⟩
            · have d1 : decide (rule < 1) = true := decide_eq_true (Decidable.byContradiction q)
              replace hv := hv.out
              rw [if_pos (.inl (Decidable.byContradiction q))] at hv
              clear q
              replace hv := Lib.hid hv.symm
              clear hblk4 hpb4
              go_wp2_with fail
              go_ret
              exact ⟨by rw [hv.out]; rfl, hB4⟩
          case false =>
            replace hv := hv.out
            rw [if_pos rfl] at hv
            replace hv := Lib.hid hv
            refine HX.mono ?_
            clear HX
            rintro e w4 ⟨rfl, b4⟩
            have hblk4 : w4.heap[pb]? = _ := (b4.block pb hpb3).trans hblk3
            have hB4 := hB3.trans (b4.mono hB3.size)
            have hpb4 : pb < w4.heap.size := (Array.getElem?_eq_some_iff.1 hblk4).1
            clear k0 k1 k2 k3 k4 k5 k6 k7 k8 k9 k10
            obtain ⟨k0, k1, k2, k3, k4, k5, k6, k7, k8, k9, k10⟩ := kk.out w4 hblk4
            clear hblk3 hpb3 hB3 b4
            replace hv := Lib.hid hv.out.symm
            clear hblk4 hpb4
            go_wp2_with fail
            go_ret
            exact ⟨by rw [hv.out]; rfl, hB4⟩
        case false =>
          replace hv := hv.out
          rw [if_pos rfl] at hv
          replace hv := Lib.hid hv
          refine HX.mono ?_
          clear HX
          rintro e w3 ⟨rfl, b3⟩
          have hblk3 : w3.heap[pb]? = _ := (b3.block pb hpb2).trans hblk2
          have hB3 := hB2.trans (b3.mono hB2.size)
          have hpb3 : pb < w3.heap.size := (Array.getElem?_eq_some_iff.1 hblk3).1
          clear k0 k1 k2 k3 k4 k5 k6 k7 k8 k9 k10
          obtain ⟨k0, k1, k2, k3, k4, k5, k6, k7, k8, k9, k10⟩ := kk.out w3 hblk3
          clear hblk2 hpb2 hB2 b3
          replace hv := Lib.hid hv.out.symm
          clear hblk3 hpb3
          go_wp2_with fail
          go_ret
          exact ⟨by rw [hv.out]; rfl, hB3⟩
      case false =>
        replace hv := hv.out
        rw [if_pos rfl] at hv
        replace hv := Lib.hid hv
        refine HX.mono ?_
        clear HX
        rintro e w2 ⟨rfl, b2⟩
        have hblk2 : w2.heap[pb]? = _ := (b2.block pb hpb1).trans hblk1
        have hB2 := hB1.trans (b2.mono hB1.size)
        have hpb2 : pb < w2.heap.size := (Array.getElem?_eq_some_iff.1 hblk2).1
        clear k0 k1 k2 k3 k4 k5 k6 k7 k8 k9 k10
        obtain ⟨k0, k1, k2, k3, k4, k5, k6, k7, k8, k9, k10⟩ := kk.out w2 hblk2
        clear hblk1 hpb1 hB1 b2
        replace hv := Lib.hid hv.out.symm
        clear hblk2 hpb2
        go_wp2_with fail
        go_ret
        exact ⟨by rw [hv.out]; rfl, hB2⟩
    case false =>
      replace hv := hv.out
      rw [q] at HX hv
      rw [if_pos rfl] at hv
      replace hv := Lib.hid hv
      refine HX.mono ?_
      clear HX
      rintro e w' ⟨rfl, rfl⟩
      replace hv := Lib.hid hv.out.symm
      clear hblk1 hpb1
      go_wp2_with fail
      go_ret
      exact ⟨by rw [hv.out]; rfl, hB1⟩
  case false =>
    replace hv := hv.out
    rw [q] at HX hv
    rw [if_pos rfl] at hv
    replace hv := Lib.hid hv
    refine HX.mono ?_
    clear HX
    rintro e w1 ⟨rfl, b1⟩
    have hblk1 : w1.heap[pb]? = _ := (b1.block pb hpb0).trans hblk0
    have hB1 := hB0.trans (b1.mono hB0.size)
    have hpb1 : pb < w1.heap.size := (Array.getElem?_eq_some_iff.1 hblk1).1
    clear k0 k1 k2 k3 k4 k5 k6 k7 k8 k9 k10
    obtain ⟨k0, k1, k2, k3, k4, k5, k6, k7, k8, k9, k10⟩ := kk.out w1 hblk1
    clear hblk0 hpb0 hB0 b1
    replace hv := Lib.hid hv.out.symm
    clear hblk1 hpb1
    go_wp2_with fail
    go_ret
    exact ⟨by rw [hv.out]; rfl, hB1⟩
end Go.Proofs.Ytdeofifidjbolaa
namespace Go.Proofs.Ytdeofifidjbolaa
open Go.RowKit
set_option linter.unusedVariables false
set_option linter.unusedSimpArgs false

def mon (k : Nat) : List (Nat × Nat) := (List.range k).map (fun i => (i, i))
def rowP (a j : Nat) : List (Nat × Nat) := (List.range (j - (a + 1))).map (fun t => (a, a + 1 + t))
def sprP (n : Nat) : Nat → List (Nat × Nat)
  | 0 => []
  | a + 1 => sprP n a ++ rowP a n
def flat : List (Nat × Nat) → List Value
  | [] => []
  | q :: l => .int .i64 q.1 :: .int .i64 q.2 :: flat l
theorem mon_zero : mon 0 = [] := rfl
theorem mon_succ (k : Nat) : mon (k + 1) = mon k ++ [(k, k)] := by unfold mon; rw [List.range_succ, List.map_append]; rfl
theorem row_start (a : Nat) : rowP a (a + 1) = [] := by unfold rowP; rw [Nat.sub_self]; rfl
theorem row_succ {a j : Nat} (h : a < j) : rowP a (j + 1) = rowP a j ++ [(a, j)] := by
  unfold rowP
  have e : j + 1 - (a + 1) = (j - (a + 1)) + 1 := by omega
  rw [e, List.range_succ, List.map_append, List.map_singleton]
  have e2 : a + 1 + (j - (a + 1)) = j := by omega
  rw [e2]
theorem spr_zero (n : Nat) : sprP n 0 = [] := rfl
theorem spr_succ (n a : Nat) : sprP n (a + 1) = sprP n a ++ rowP a n := rfl
theorem room_of : ∀ n, n < 7 → ∀ a, a < n → ∀ j, j < n → a < j → (mon n ++ sprP n a ++ rowP a j).length < 21 := by decide
theorem mon_len (k : Nat) : (mon k).length = k := by unfold mon; rw [List.length_map, List.length_range]
theorem all_len : ∀ n, n < 7 → (mon n ++ sprP n n).length = n + n * (n - 1) / 2 := by decide
theorem flat_append (l m : List (Nat × Nat)) : flat (l ++ m) = flat l ++ flat m := by
  induction l with
  | nil => rfl
  | cons q l ih => show Value.int .i64 q.1 :: Value.int .i64 q.2 :: flat (l ++ m) = _; rw [ih]; rfl
theorem flat_len (l : List (Nat × Nat)) : (flat l).length = l.length * 2 := by
  induction l with
  | nil => rfl
  | cons q l ih => show (flat l).length + 1 + 1 = (l.length + 1) * 2; omega
theorem flat_at {l : List (Nat × Nat)} {k : Nat} {q : Nat × Nat} (h : l[k]? = some q) : (flat l)[k * 2]? = some (.int .i64 q.1) ∧ (flat l)[k * 2 + 1]? = some (.int .i64 q.2) := by
  induction l generalizing k with
  | nil => cases h
  | cons x l ih =>
    match k, h with
    | 0, h => injection h with h; subst h; exact ⟨rfl, rfl⟩
    | k + 1, h =>
      have := ih (k := k) h
      have e1 : (k + 1) * 2 = k * 2 + 1 + 1 := by omega
      rw [e1]
      exact this
/-- Legs, of a product with so many months. -/
def legsN (n k : Nat) : Int × Int × Bool := if k < n then ((k : Int), (k : Int), false) else pairFrom n n (k - n)
def legT (n k : Nat) : Bool := match (mon n ++ sprP n n)[k]? with
  | some q => decide (legsN n k = ((q.1 : Int), (q.2 : Int), decide (q.1 ≠ q.2)))
  | none => false
theorem legT_all : ∀ n, n < 7 → ∀ k, k < 21 → k < n + n * (n - 1) / 2 → legT n k = true := by decide
theorem legs_all (n : Nat) (hn : n < 7) (k : Nat) (hk : k < 21) (h : k < n + n * (n - 1) / 2) : ∃ q : Nat × Nat, (mon n ++ sprP n n)[k]? = some q ∧ ((q.1 : Int), (q.2 : Int), decide (q.1 ≠ q.2)) = legsN n k := by
  have e := legT_all n hn k hk h
  unfold legT at e
  split at e
  · rename_i q hq
    exact ⟨q, hq, (of_decide_eq_true e).symm⟩
  · cases e
theorem legs_is {p : PD} (h : chk p = 0) (k : Nat) : legsL p k = legsN p.n1 k := by
  unfold legsL legsN
  rw [if_neg (by omega)]
  by_cases hk : k < p.n1
  · rw [if_pos (by omega), if_pos hk]
  · rw [if_neg (by omega), if_neg hk]
    congr 1
    omega
theorem list_of {p : PD} (h : chk p = 0) {k : Nat} (hk : k < cntL p) : ∃ q : Nat × Nat, (mon p.n1 ++ sprP p.n1 p.n1)[k]? = some q ∧ (legsL p k).1 = q.1 ∧ (legsL p k).2.1 = q.2 := by
  have hn := chk_zero h
  have hc : cntL p = p.n1 + p.n1 * (p.n1 - 1) / 2 := by unfold cntL; rw [if_pos h]
  have h21 : k < 21 := Nat.lt_of_lt_of_le hk (cntL_le p)
  have hk' : k < p.n1 + p.n1 * (p.n1 - 1) / 2 := hc ▸ hk
  obtain ⟨q, hq, e2⟩ := legs_all p.n1 (by omega) k h21 hk'
  refine ⟨q, hq, ?_, ?_⟩
  · rw [legs_is h, ← e2]
  · rw [legs_is h, ← e2]
/-- Which instruments are spreads. -/
theorem legs_spread {p : PD} {inst : Int} (h0 : 0 ≤ inst) (h : inst < cntL p) : (legsL p inst).2.2 = ((legsL p inst).1 != (legsL p inst).2.1) := by
  have hz := (legs_range h0 h).1
  obtain ⟨k, rfl⟩ : ∃ k : Nat, inst = k := ⟨inst.toNat, by omega⟩
  have hk : k < cntL p := by omega
  have hn := chk_zero hz
  have hc : cntL p = p.n1 + p.n1 * (p.n1 - 1) / 2 := by unfold cntL; rw [if_pos hz]
  obtain ⟨q, _, e2⟩ := legs_all p.n1 (by omega) k (Nat.lt_of_lt_of_le hk (cntL_le p)) (hc ▸ hk)
  rw [legs_is hz, ← e2]
  show decide (q.1 ≠ q.2) = ((q.1 : Int) != (q.2 : Int))
  by_cases c : q.1 = q.2
  · rw [c]; simp
  · rw [decide_eq_true c]; symm; exact bne_iff_ne.2 (by omega)
def tri : Nat → Nat
  | 0 => 0
  | d + 1 => tri d + d
theorem tri_is : ∀ n, n < 7 → tri n = n * (n - 1) / 2 := by decide
theorem pair_end (n : Nat) : ∀ d r, tri d ≤ r → pairFrom n d r = (0, 0, false) := by
  intro d
  induction d with
  | zero => intro r _; rfl
  | succ d ih =>
    intro r hr
    have hr' : tri d + d ≤ r := hr
    rw [pairFrom_succ, if_neg (by omega)]
    exact ih _ (by omega)
/-- What is no instrument has no legs. -/
theorem legs_none {p : PD} {inst : Int} (h : ¬ (0 ≤ inst ∧ inst < cntL p)) : legsL p inst = (0, 0, false) := by
  unfold legsL
  by_cases c : chk p ≠ 0 ∨ inst < 0
  · rw [if_pos c]
  · rw [if_neg c]
    have hz : chk p = 0 := by omega
    have hn := chk_zero hz
    have hc : cntL p = p.n1 + p.n1 * (p.n1 - 1) / 2 := by unfold cntL; rw [if_pos hz]
    rw [if_neg (by omega)]
    refine pair_end _ _ _ ?_
    rw [tri_is p.n1 (by omega)]
    omega
/-- A slice of pairs. -/
def Pairs (w : World) (A : Option Addr) (len : Nat) (I J : Nat → Int) : Prop :=
  ∀ k, k < len → ∃ b, A = some ⟨b, 0, none⟩ ∧ w.cell? ⟨b, k * 2, none⟩ = some (.int .i64 (I k)) ∧ w.cell? ⟨b, k * 2 + 1, none⟩ = some (.int .i64 (J k))
theorem Pairs.below {w w' : World} {A : Option Addr} {len : Nat} {I J : Nat → Int} (h : Pairs w A len I J) (hb : Below w.heap.size w w') : Pairs w' A len I J := by
  intro k hk
  obtain ⟨b, e, h1, h2⟩ := h k hk
  exact ⟨b, e, (hb.cell (p := ⟨b, k * 2, none⟩) (World.block_lt_of_cell? w _ h1)).trans h1, (hb.cell (p := ⟨b, k * 2 + 1, none⟩) (World.block_lt_of_cell? w _ h2)).trans h2⟩
theorem two_new (w : World) (x y : Value) (t : TypeId) : ∀ j u, [x, y][j]? = some u → (w.alloc (.cells #[x, y] t)).cell? ((⟨w.heap.size, 0, none⟩ : Addr).add j) = some u := by
  intro j u hj
  match j, hj with
  | 0, hj =>
    simp at hj
    subst hj
    simp [Addr.add]
  | 1, hj =>
    simp at hj
    subst hj
    simp [Addr.add]
theorem own_pairs {w : World} {base g cap : Nat} {t : TypeId} {ps : List (Nat × Nat)} {I J : Nat → Int} (h : w.ownsRow base t 2 (.slice (some ⟨g, 0, none⟩) ps.length cap) ps.length (flat ps))
    (hI : ∀ k, k < ps.length → ∃ q : Nat × Nat, ps[k]? = some q ∧ I k = q.1 ∧ J k = q.2) : Pairs w (some ⟨g, 0, none⟩) ps.length I J := by
  intro k hk
  obtain ⟨q, hq, e1, e2⟩ := hI k hk
  obtain ⟨f1, f2⟩ := flat_at hq
  refine ⟨g, rfl, ?_, ?_⟩
  · rw [World.ownsRow.cellAt h (k * 2) (by omega), f1, e1]
  · rw [World.ownsRow.cellAt h (k * 2 + 1) (by omega), f2, e2]
end Go.Proofs.Ytdeofifidjbolaa
namespace Go.Proofs.Ytdeofifidjbolaa
open Go.RowKit
set_option linter.unusedVariables false
set_option linter.unusedSimpArgs false

theorem pair_info : (Try.prog.info? 77).map (fun i => (i.zero, i.size, i.bytes)) = some (some (.agg #[.int .i64 0, .int .i64 0]), 2, 16) := by kernel_rfl
set_option maxRecDepth 100000 in
set_option maxHeartbeats 1600000 in
theorem Instruments_any (p : PD) (w : World) (h : Hid (p.Ok w)) :
    Calls Try.prog 55 #[p.val] w fun e w' => (∃ A c, e = .returned (.slice A (cntL p) c) ∧ cntL p ≤ c ∧ c ≤ 21 ∧ Pairs w' A (cntL p) (fun k => (legsL p k).1) (fun k => (legsL p k).2.1)) ∧ Below w.heap.size w w' := by
  obtain ⟨i0, hi0, hz0, hz1, hz2⟩ := info_parts pair_info
  obtain ⟨e0, h0⟩ : ∃ e, chk p = e := ⟨_, rfl⟩
  obtain ⟨c0, hc0⟩ : ∃ e, cntL p = e := ⟨_, rfl⟩
  obtain ⟨I, hI⟩ : ∃ I, (fun k : Nat => (legsL p k).1) = I := ⟨_, rfl⟩
  obtain ⟨J, hJ⟩ : ∃ J, (fun k : Nat => (legsL p k).2.1) = J := ⟨_, rfl⟩
  rw [hI, hJ, hc0]
  have hN : e0 ≠ 0 → c0 = 0 := fun g => by rw [← hc0]; unfold cntL; rw [if_neg (by rw [h0]; exact g)]
  have hY : e0 = 0 → 2 ≤ p.n1 ∧ p.n1 ≤ 6 ∧ c0 = (mon p.n1 ++ sprP p.n1 p.n1).length ∧ ∀ k, k < (mon p.n1 ++ sprP p.n1 p.n1).length → ∃ q : Nat × Nat, (mon p.n1 ++ sprP p.n1 p.n1)[k]? = some q ∧ I k = q.1 ∧ J k = q.2 := fun g => by
    have hz := h0.trans g
    have hn := chk_zero hz
    have hl : c0 = (mon p.n1 ++ sprP p.n1 p.n1).length := by rw [all_len p.n1 (by omega), ← hc0]; unfold cntL; rw [if_pos hz]
    refine ⟨hn.1, hn.2, hl, fun k hk => ?_⟩
    rw [← hI, ← hJ]
    exact list_of hz (by rw [hc0, hl]; exact hk)
  have HC : Hid (∀ W, Below w.heap.size w W → Calls Try.prog 39 #[p.val] W fun e w' => e = .returned (.int .i64 e0) ∧ Below W.heap.size W w') := Lib.hid (fun W b => by rw [← h0]; exact PCheck_any p W (Lib.hid (h.out.below b)))
  clear h0 hc0 hI hJ
  have l1 := h.out.l1
  have m1 := h.out.m1
  have l2 := h.out.l2
  have m2 := h.out.m2
  have hco := h.out.code
  obtain ⟨ti1, ti2⟩ := h.out.tick
  obtain ⟨lo1, lo2⟩ := h.out.low
  obtain ⟨hg1, hg2⟩ := h.out.high
  obtain ⟨wi1, wi2⟩ := h.out.wide
  obtain ⟨ru1, ru2⟩ := h.out.rule
  obtain ⟨to1, to2⟩ := h.out.top
  obtain ⟨le1, le2⟩ := h.out.least
  obtain ⟨pa1, pa2⟩ := h.out.part
  have HO1 : Hid (∀ W, Below w.heap.size w W → Nums W p.A1 p.n1 p.Q) := Lib.hid (fun W b => h.out.months.below b)
  have HO2 : Hid (∀ W, Below w.heap.size w W → Nums W p.A2 p.n2 p.R) := Lib.hid (fun W b => h.out.settle.below b)
  clear h
  obtain ⟨code, A1, n1, c1, tick, low, high, wide, rule, top, least, part, A2, n2, c2, Q, R⟩ := p
  simp only at l1 m1 l2 m2 hco ti1 ti2 lo1 lo2 hg1 hg2 wi1 wi2 ru1 ru2 to1 to2 le1 le2 pa1 pa2 HO1 HO2 hN hY
  replace hN := Lib.hid hN
  replace hY := Lib.hid hY
  replace HC : Hid (∀ W, Below w.heap.size w W → Calls Try.prog 39 #[.agg #[.string (str code), .slice A1 n1 c1, .int .i64 tick, .int .i64 low, .int .i64 high, .int .i64 wide, .int .i64 rule, .int .i64 top, .int .i64 least, .int .i64 part, .slice A2 n2 c2]] W fun e w' => e = .returned (.int .i64 e0) ∧ Below W.heap.size W w') := HC
  show Calls Try.prog 55 #[.agg #[.string (str code), .slice A1 n1 c1, .int .i64 tick, .int .i64 low, .int .i64 high, .int .i64 wide, .int .i64 rule, .int .i64 top, .int .i64 least, .int .i64 part, .slice A2 n2 c2]] w _
  obtain ⟨W0, eW0⟩ : ∃ W0, w.alloc (.cells #[.string (str code), .slice A1 n1 c1, .int .i64 tick, .int .i64 low, .int .i64 high, .int .i64 wide, .int .i64 rule, .int .i64 top, .int .i64 least, .int .i64 part, .slice A2 n2 c2] 25) = W0 := ⟨_, rfl⟩
  obtain ⟨pb, epb⟩ : ∃ pb, w.heap.size = pb := ⟨_, rfl⟩
  have hblk0 : W0.heap[pb]? = some (.cells #[.string (str code), .slice A1 n1 c1, .int .i64 tick, .int .i64 low, .int .i64 high, .int .i64 wide, .int .i64 rule, .int .i64 top, .int .i64 least, .int .i64 part, .slice A2 n2 c2] 25 (0, 0)) := by
    rw [← eW0, ← epb]; exact heap_alloc_new w _
  have hB0 : Below w.heap.size w W0 := by rw [← eW0]; exact (Below.refl _ w).alloc (Nat.le_refl _) _
  have hpb0 : pb < W0.heap.size := (Array.getElem?_eq_some_iff.1 hblk0).1
  have kk : ∀ W : World, W.heap[pb]? = some (.cells #[.string (str code), .slice A1 n1 c1, .int .i64 tick, .int .i64 low, .int .i64 high, .int .i64 wide, .int .i64 rule, .int .i64 top, .int .i64 least, .int .i64 part, .slice A2 n2 c2] 25 (0, 0)) → W.cell? ⟨pb, 0, none⟩ = some (.string (str code)) ∧ W.cell? ⟨pb, 1, none⟩ = some (.slice A1 n1 c1) ∧ W.cell? ⟨pb, 2, none⟩ = some (.int .i64 tick) ∧ W.cell? ⟨pb, 3, none⟩ = some (.int .i64 low) ∧ W.cell? ⟨pb, 4, none⟩ = some (.int .i64 high) ∧ W.cell? ⟨pb, 5, none⟩ = some (.int .i64 wide) ∧ W.cell? ⟨pb, 6, none⟩ = some (.int .i64 rule) ∧ W.cell? ⟨pb, 7, none⟩ = some (.int .i64 top) ∧ W.cell? ⟨pb, 8, none⟩ = some (.int .i64 least) ∧ W.cell? ⟨pb, 9, none⟩ = some (.int .i64 part) ∧ W.cell? ⟨pb, 10, none⟩ = some (.slice A2 n2 c2) := by
    intro W hb
    refine ⟨?_, ?_, ?_, ?_, ?_, ?_, ?_, ?_, ?_, ?_, ?_⟩ <;> (rw [Lib.cell_of_heap hb]; rfl)
  replace kk := Lib.hid kk
  replace eW0 := Lib.hid eW0
  replace epb := Lib.hid epb
  have a0 : (w.alloc (.cells #[.string (str code), .slice A1 n1 c1, .int .i64 tick, .int .i64 low, .int .i64 high, .int .i64 wide, .int .i64 rule, .int .i64 top, .int .i64 least, .int .i64 part, .slice A2 n2 c2] 25)).cell? ⟨w.heap.size, 0, none⟩ = some (.string (str code)) := by
    rw [eW0.out, epb.out]; exact (kk.out W0 hblk0).1
  have a1 : (w.alloc (.cells #[.string (str code), .slice A1 n1 c1, .int .i64 tick, .int .i64 low, .int .i64 high, .int .i64 wide, .int .i64 rule, .int .i64 top, .int .i64 least, .int .i64 part, .slice A2 n2 c2] 25)).cell? ⟨w.heap.size, 1, none⟩ = some (.slice A1 n1 c1) := by
    rw [eW0.out, epb.out]; exact (kk.out W0 hblk0).2.1
  have a2 : (w.alloc (.cells #[.string (str code), .slice A1 n1 c1, .int .i64 tick, .int .i64 low, .int .i64 high, .int .i64 wide, .int .i64 rule, .int .i64 top, .int .i64 least, .int .i64 part, .slice A2 n2 c2] 25)).cell? ⟨w.heap.size, 2, none⟩ = some (.int .i64 tick) := by
    rw [eW0.out, epb.out]; exact (kk.out W0 hblk0).2.2.1
  have a3 : (w.alloc (.cells #[.string (str code), .slice A1 n1 c1, .int .i64 tick, .int .i64 low, .int .i64 high, .int .i64 wide, .int .i64 rule, .int .i64 top, .int .i64 least, .int .i64 part, .slice A2 n2 c2] 25)).cell? ⟨w.heap.size, 3, none⟩ = some (.int .i64 low) := by
    rw [eW0.out, epb.out]; exact (kk.out W0 hblk0).2.2.2.1
  have a4 : (w.alloc (.cells #[.string (str code), .slice A1 n1 c1, .int .i64 tick, .int .i64 low, .int .i64 high, .int .i64 wide, .int .i64 rule, .int .i64 top, .int .i64 least, .int .i64 part, .slice A2 n2 c2] 25)).cell? ⟨w.heap.size, 4, none⟩ = some (.int .i64 high) := by
    rw [eW0.out, epb.out]; exact (kk.out W0 hblk0).2.2.2.2.1
  have a5 : (w.alloc (.cells #[.string (str code), .slice A1 n1 c1, .int .i64 tick, .int .i64 low, .int .i64 high, .int .i64 wide, .int .i64 rule, .int .i64 top, .int .i64 least, .int .i64 part, .slice A2 n2 c2] 25)).cell? ⟨w.heap.size, 5, none⟩ = some (.int .i64 wide) := by
    rw [eW0.out, epb.out]; exact (kk.out W0 hblk0).2.2.2.2.2.1
  have a6 : (w.alloc (.cells #[.string (str code), .slice A1 n1 c1, .int .i64 tick, .int .i64 low, .int .i64 high, .int .i64 wide, .int .i64 rule, .int .i64 top, .int .i64 least, .int .i64 part, .slice A2 n2 c2] 25)).cell? ⟨w.heap.size, 6, none⟩ = some (.int .i64 rule) := by
    rw [eW0.out, epb.out]; exact (kk.out W0 hblk0).2.2.2.2.2.2.1
  have a7 : (w.alloc (.cells #[.string (str code), .slice A1 n1 c1, .int .i64 tick, .int .i64 low, .int .i64 high, .int .i64 wide, .int .i64 rule, .int .i64 top, .int .i64 least, .int .i64 part, .slice A2 n2 c2] 25)).cell? ⟨w.heap.size, 7, none⟩ = some (.int .i64 top) := by
    rw [eW0.out, epb.out]; exact (kk.out W0 hblk0).2.2.2.2.2.2.2.1
  have a8 : (w.alloc (.cells #[.string (str code), .slice A1 n1 c1, .int .i64 tick, .int .i64 low, .int .i64 high, .int .i64 wide, .int .i64 rule, .int .i64 top, .int .i64 least, .int .i64 part, .slice A2 n2 c2] 25)).cell? ⟨w.heap.size, 8, none⟩ = some (.int .i64 least) := by
    rw [eW0.out, epb.out]; exact (kk.out W0 hblk0).2.2.2.2.2.2.2.2.1
  have a9 : (w.alloc (.cells #[.string (str code), .slice A1 n1 c1, .int .i64 tick, .int .i64 low, .int .i64 high, .int .i64 wide, .int .i64 rule, .int .i64 top, .int .i64 least, .int .i64 part, .slice A2 n2 c2] 25)).cell? ⟨w.heap.size, 9, none⟩ = some (.int .i64 part) := by
    rw [eW0.out, epb.out]; exact (kk.out W0 hblk0).2.2.2.2.2.2.2.2.2.1
  have a10 : (w.alloc (.cells #[.string (str code), .slice A1 n1 c1, .int .i64 tick, .int .i64 low, .int .i64 high, .int .i64 wide, .int .i64 rule, .int .i64 top, .int .i64 least, .int .i64 part, .slice A2 n2 c2] 25)).cell? ⟨w.heap.size, 10, none⟩ = some (.slice A2 n2 c2) := by
    rw [eW0.out, epb.out]; exact (kk.out W0 hblk0).2.2.2.2.2.2.2.2.2.2
  go_enter Try.func55, Try.ntmps55
  go_wp2_with fail
  rw [eW0.out]
  rw [epb.out]
  clear a0 a1 a2 a3 a4 a5 a6 a7 a8 a9 a10 eW0
  obtain ⟨k0, k1, k2, k3, k4, k5, k6, k7, k8, k9, k10⟩ := kk.out W0 hblk0
  have HX := HC.out W0 hB0
  refine HX.mono ?_
  clear HX HC
  rintro e w1 ⟨rfl, b1⟩
  have hblk1 : w1.heap[pb]? = _ := (b1.block pb hpb0).trans hblk0
  have hB1 := hB0.trans (b1.mono hB0.size)
  have hpb1 : pb < w1.heap.size := (Array.getElem?_eq_some_iff.1 hblk1).1
  clear k0 k1 k2 k3 k4 k5 k6 k7 k8 k9 k10
  obtain ⟨k0, k1, k2, k3, k4, k5, k6, k7, k8, k9, k10⟩ := kk.out w1 hblk1
  clear hblk0 hpb0 hB0 b1
  by_cases q0 : e0 = 0
  · subst q0
    obtain ⟨n2', n6, hlen, hIJ⟩ := hY.out rfl
    replace hlen := Lib.hid hlen
    replace hIJ := Lib.hid hIJ
    clear hY hN
    have f0 : (((0 : Nat) : Int) != 0) = false := by decide
    obtain ⟨g, eg⟩ : ∃ g, w1.heap.size = g := ⟨_, rfl⟩
    have hpg : pb < g := by omega
    have hgb : w.heap.size ≤ g := by have := hB1.size; omega
    have HB1 := Lib.hid hB1
    go_wp2_with (at_make; refine wpList_make_own _ (by rfl) (.const (.int .i64 0)) (.const (.int .i64 21)) 96 (by rfl) w.heap.size 77 i0 (.agg #[.int .i64 0, .int .i64 0]) 2 Try.underlying96 hi0 hz0 hz1 .i64 .i64 21 21 (by rfl) (by rfl) rfl (by omega) (by unfold maxLen; omega) hB1.size ?_)
    intro w2 hown hg2
    (try rw [eg])
    have hb2 := Lib.hid (show w2.heap[pb]? = _ from (hg2.block pb hpb1 (by intro e; cases e)).trans hblk1)
    have hB2 := Lib.hid (hB1.grown hg2 hB1.size (fun k hk => by cases hk))
    (try rw [eg] at hown)
    replace hown := Lib.hid hown
    clear k0 k1 k2 k3 k4 k5 k6 k7 k8 k9 k10 hblk1 hpb1 hB1 hg2 HB1
    obtain ⟨k0, k1, k2, k3, k4, k5, k6, k7, k8, k9, k10⟩ := kk.out w2 hb2.out
    go_wp2_with fail
    go_loopw [14, 3] (fun iv sv wr => ∃ (m : Nat) (ps : List (Nat × Nat)), iv = .int .i64 m ∧ sv = .slice (some ⟨g, 0, none⟩) m 21 ∧ m ≤ n1 ∧ Hid (ps = mon m) ∧ Hid (wr.ownsRow w.heap.size 77 2 (.slice (some ⟨g, 0, none⟩) m 21) m (flat ps)) ∧ Hid (Below w.heap.size w wr) ∧ Hid (wr.heap[pb]? = some (.cells #[.string (str code), .slice A1 n1 c1, .int .i64 tick, .int .i64 low, .int .i64 high, .int .i64 wide, .int .i64 rule, .int .i64 top, .int .i64 least, .int .i64 part, .slice A2 n2 c2] 25 (0, 0)))) (fun i _ _ => n1 - (intOf i).toNat)
    case atStart => exact ⟨0, mon 0, rfl, rfl, by omega, Lib.hid rfl, hown, hB2, hb2⟩
    case round =>
      clear hown hB2 hb2 k0 k1 k2 k3 k4 k5 k6 k7 k8 k9 k10 eg
      obtain ⟨m, ps, rfl, rfl, hm, hps, hown, HB, hb⟩ := hrel
      have hpb := (Array.getElem?_eq_some_iff.1 hb.out).1
      obtain ⟨k0, k1, k2, k3, k4, k5, k6, k7, k8, k9, k10⟩ := kk.out wr hb.out
      by_cases hlt : m < n1
      · have e1 : decide ((m : Int) < (n1 : Int)) = true := decide_eq_true (by omega)
        have e2 : (m : Int) < (n1 : Int) := by omega
        have hal := Lib.hid ((hown.out).alloc (.cells #[.int .i64 (m : Int), .int .i64 (m : Int)] 77))
        go_wp2_with (at_builtin; refine wpList_append_fits _ rfl (.tmp 17) (.tmp 21) 96 rfl w.heap.size 77 i0 2 Try.underlying96 hi0 hz1 g m 21 (flat ps) rfl hal.out ⟨wr.heap.size, 0, none⟩ 1 1 [.int .i64 (m : Int), .int .i64 (m : Int)] rfl rfl (two_new _ _ _ _) (ints_oneCell .i64 [(m : Int), (m : Int)]) (by omega) ?_)
        intro w4 hown4 hg4
        have hown5 := Lib.hid (show w4.ownsRow w.heap.size 77 2 (.slice (some ⟨g, 0, none⟩) (m + 1) 21) (m + 1) (flat (ps ++ [(m, m)])) from by rw [flat_append]; exact hown4)
        have hBal := (HB.out).alloc (HB.out).size (.cells #[.int .i64 (m : Int), .int .i64 (m : Int)] 77)
        have hB5 := Lib.hid (hBal.grown hg4 hBal.size (fun k hk => by injection hk with hk; rw [← hk]; exact hgb))
        have hb5 := Lib.hid (show w4.heap[pb]? = _ from ((hg4.block pb (by rw [World.size_alloc]; omega) (by intro e; injection e with e; omega)).trans (heap_alloc_old _ _ (by omega))).trans hb.out)
        clear hown4 hg4 hBal hal
        go_wp2_with fail
        go_roundw
        case rel => exact ⟨m + 1, ps ++ [(m, m)], by go_num, by go_num, by omega, Lib.hid (by rw [mon_succ, hps.out]), hown5, hB5, hb5⟩
        case measure => simp [intOf]; omega
      · obtain rfl : n1 = m := by omega
        have e1 : decide ((n1 : Int) < (n1 : Int)) = false := decide_eq_false (by omega)
        go_wp2_with fail
        go_loopw [27, 3] (fun iv sv wr => ∃ (a m : Nat) (ps : List (Nat × Nat)), iv = .int .i64 a ∧ sv = .slice (some ⟨g, 0, none⟩) m 21 ∧ a ≤ n1 ∧ Hid (ps.length = m) ∧ Hid (ps = mon n1 ++ sprP n1 a) ∧ Hid (wr.ownsRow w.heap.size 77 2 (.slice (some ⟨g, 0, none⟩) m 21) m (flat ps)) ∧ Hid (Below w.heap.size w wr) ∧ Hid (wr.heap[pb]? = some (.cells #[.string (str code), .slice A1 n1 c1, .int .i64 tick, .int .i64 low, .int .i64 high, .int .i64 wide, .int .i64 rule, .int .i64 top, .int .i64 least, .int .i64 part, .slice A2 n2 c2] 25 (0, 0)))) (fun i _ _ => n1 - (intOf i).toNat)
        case atStart => exact ⟨0, n1, ps, rfl, rfl, by omega, Lib.hid (by rw [hps.out, mon_len]), Lib.hid (by rw [hps.out, spr_zero, List.append_nil]), hown, HB, hb⟩
        case round =>
          clear hown HB hb hpb k0 k1 k2 k3 k4 k5 k6 k7 k8 k9 k10 hps hm hlt
          obtain ⟨a, m, ps, rfl, rfl, ha, hlm, hps, hown, HB, hb⟩ := hrel
          have hpb := (Array.getElem?_eq_some_iff.1 hb.out).1
          obtain ⟨k0, k1, k2, k3, k4, k5, k6, k7, k8, k9, k10⟩ := kk.out _ hb.out
          by_cases hlt : a < n1
          · have e1 : decide ((a : Int) < (n1 : Int)) = true := decide_eq_true (by omega)
            have e2 : (a : Int) < (n1 : Int) := by omega
            go_wp2_with fail
            go_loopw [6, 3] (fun jv sv wr => ∃ (j m : Nat) (ps : List (Nat × Nat)), jv = .int .i64 j ∧ sv = .slice (some ⟨g, 0, none⟩) m 21 ∧ a < j ∧ j ≤ n1 ∧ Hid (ps.length = m) ∧ Hid (ps = mon n1 ++ sprP n1 a ++ rowP a j) ∧ Hid (wr.ownsRow w.heap.size 77 2 (.slice (some ⟨g, 0, none⟩) m 21) m (flat ps)) ∧ Hid (Below w.heap.size w wr) ∧ Hid (wr.heap[pb]? = some (.cells #[.string (str code), .slice A1 n1 c1, .int .i64 tick, .int .i64 low, .int .i64 high, .int .i64 wide, .int .i64 rule, .int .i64 top, .int .i64 least, .int .i64 part, .slice A2 n2 c2] 25 (0, 0)))) (fun j _ _ => n1 - (intOf j).toNat)
            case atStart => exact ⟨a + 1, m, ps, by go_num, rfl, by omega, by omega, hlm, Lib.hid (by rw [hps.out, row_start, List.append_nil]), hown, HB, hb⟩
            case round =>
              clear hown HB hb hpb k0 k1 k2 k3 k4 k5 k6 k7 k8 k9 k10 hps hlm e1
              obtain ⟨j, m, ps, rfl, rfl, haj, hj, hlm, hps, hown, HB, hb⟩ := hrel
              have hpb := (Array.getElem?_eq_some_iff.1 hb.out).1
              obtain ⟨k0, k1, k2, k3, k4, k5, k6, k7, k8, k9, k10⟩ := kk.out _ hb.out
              by_cases hjn : j < n1
              · have e1 : decide ((j : Int) < (n1 : Int)) = true := decide_eq_true (by omega)
                have hroom : m < 21 := by rw [← hlm.out, hps.out]; exact room_of n1 (by omega) a hlt j hjn haj
                have hal := Lib.hid ((hown.out).alloc (.cells #[.int .i64 (a : Int), .int .i64 (j : Int)] 77))
                go_wp2_with (at_builtin; refine wpList_append_fits _ rfl (.tmp 39) (.tmp 43) 96 rfl w.heap.size 77 i0 2 Try.underlying96 hi0 hz1 g m 21 (flat ps) rfl hal.out ⟨wr.heap.size, 0, none⟩ 1 1 [.int .i64 (a : Int), .int .i64 (j : Int)] rfl rfl (two_new _ _ _ _) (ints_oneCell .i64 [(a : Int), (j : Int)]) (by omega) ?_)
                intro w4 hown4 hg4
                have hown5 := Lib.hid (show w4.ownsRow w.heap.size 77 2 (.slice (some ⟨g, 0, none⟩) (m + 1) 21) (m + 1) (flat (ps ++ [(a, j)])) from by rw [flat_append]; exact hown4)
                have hBal := (HB.out).alloc (HB.out).size (.cells #[.int .i64 (a : Int), .int .i64 (j : Int)] 77)
                have hB5 := Lib.hid (hBal.grown hg4 hBal.size (fun k hk => by injection hk with hk; rw [← hk]; exact hgb))
                have hb5 := Lib.hid (show w4.heap[pb]? = _ from ((hg4.block pb (by rw [World.size_alloc]; omega) (by intro e; injection e with e; omega)).trans (heap_alloc_old _ _ (by omega))).trans hb.out)
                clear hown4 hg4 hBal hal
                go_wp2_with fail
                go_roundw
                case rel => exact ⟨j + 1, m + 1, ps ++ [(a, j)], by go_num, by go_num, by omega, by omega, Lib.hid (by rw [List.length_append, hlm.out]; rfl), Lib.hid (by rw [row_succ haj, hps.out, List.append_assoc]), hown5, hB5, hb5⟩
                case measure => simp [intOf]; omega
              · obtain rfl : n1 = j := by omega
                have e1 : decide ((n1 : Int) < (n1 : Int)) = false := decide_eq_false (by omega)
                go_wp2_with fail
                go_roundw
                case rel => exact ⟨a + 1, m, ps, by go_num, by go_num, by omega, hlm, Lib.hid (by rw [spr_succ, hps.out, List.append_assoc]), hown, HB, hb⟩
                case measure => simp [intOf]; omega
          · obtain rfl : n1 = a := by omega
            have e1 : decide ((n1 : Int) < (n1 : Int)) = false := decide_eq_false (by omega)
            go_wp2_with fail
            go_ret
            have hl := hlm.out
            have hp := hps.out
            have ho := hown.out
            refine ⟨⟨some ⟨g, 0, none⟩, 21, ?_, ?_, Nat.le_refl _, ?_⟩, HB.out⟩
            · rw [hlen.out, ← hp, hl]; rfl
            · have := hlen.out
              have hx := all_len n1 (by omega)
              have cs : n1 = 2 ∨ n1 = 3 ∨ n1 = 4 ∨ n1 = 5 ∨ n1 = 6 := by omega
              rw [this, hx]
              rcases cs with h | h | h | h | h <;> rw [h] <;> decide
            · have hq := hIJ.out
              rw [hlen.out]
              rw [← hp] at hq ⊢
              subst hl
              exact own_pairs ho hq
  · have f0 : ((e0 : Int) != 0) = true := by simp; omega
    have hc := Lib.hid (hN.out q0)
    clear q0 hN hY hblk1 hpb1
    go_wp2_with fail
    go_ret
    exact ⟨⟨none, 0, by rw [hc.out]; rfl, by rw [hc.out]; exact Nat.le_refl _, by omega, fun k hk => absurd hk (by rw [hc.out]; omega)⟩, hB1⟩
end Go.Proofs.Ytdeofifidjbolaa
namespace Go.Proofs.Ytdeofifidjbolaa
open Go.RowKit
set_option linter.unusedVariables false
set_option linter.unusedSimpArgs false

set_option maxRecDepth 100000 in
set_option maxHeartbeats 1600000 in
theorem PCount_any (p : PD) (w : World) (h : Hid (p.Ok w)) :
    Calls Try.prog 50 #[p.val] w fun e w' => e = .returned (.int .i64 (cntL p)) ∧ Below w.heap.size w w' := by
  have HC : Hid (∀ W, Below w.heap.size w W → Calls Try.prog 55 #[p.val] W _) := Lib.hid (fun W b => Instruments_any p W (Lib.hid (h.out.below b)))
  obtain ⟨c0, hc0⟩ : ∃ e, cntL p = e := ⟨_, rfl⟩
  have h21 := cntL_le p
  rw [hc0] at HC h21 ⊢
  clear hc0
  have l1 := h.out.l1
  have m1 := h.out.m1
  have l2 := h.out.l2
  have m2 := h.out.m2
  have hco := h.out.code
  obtain ⟨ti1, ti2⟩ := h.out.tick
  obtain ⟨lo1, lo2⟩ := h.out.low
  obtain ⟨hg1, hg2⟩ := h.out.high
  obtain ⟨wi1, wi2⟩ := h.out.wide
  obtain ⟨ru1, ru2⟩ := h.out.rule
  obtain ⟨to1, to2⟩ := h.out.top
  obtain ⟨le1, le2⟩ := h.out.least
  obtain ⟨pa1, pa2⟩ := h.out.part
  have HO1 : Hid (∀ W, Below w.heap.size w W → Nums W p.A1 p.n1 p.Q) := Lib.hid (fun W b => h.out.months.below b)
  have HO2 : Hid (∀ W, Below w.heap.size w W → Nums W p.A2 p.n2 p.R) := Lib.hid (fun W b => h.out.settle.below b)
  clear h
  obtain ⟨K, hK⟩ : ∃ K : World → Ending → World → Prop, (fun W e w' => (∃ A c, e = .returned (.slice A c0 c) ∧ c0 ≤ c ∧ c ≤ 21 ∧ Pairs w' A c0 (fun k => (legsL p k).1) (fun k => (legsL p k).2.1)) ∧ Below W.heap.size W w') = K := ⟨_, rfl⟩
  have hK2 : ∀ W e w', K W e w' → (∃ A c, e = .returned (.slice A c0 c) ∧ c0 ≤ c ∧ c ≤ 21) ∧ Below W.heap.size W w' := fun W e w' g => by
    rw [← hK] at g
    obtain ⟨⟨A, c, g1, g2, g3, _⟩, g5⟩ := g
    exact ⟨⟨A, c, g1, g2, g3⟩, g5⟩
  replace HC : Hid (∀ W, Below w.heap.size w W → Calls Try.prog 55 #[p.val] W (K W)) := Lib.hid (fun W b => by rw [← hK]; exact HC.out W b)
  replace hK2 := Lib.hid hK2
  clear hK
  obtain ⟨code, A1, n1, c1, tick, low, high, wide, rule, top, least, part, A2, n2, c2, Q, R⟩ := p
  simp only at l1 m1 l2 m2 hco ti1 ti2 lo1 lo2 hg1 hg2 wi1 wi2 ru1 ru2 to1 to2 le1 le2 pa1 pa2 HO1 HO2 
  replace HC : Hid (∀ W, Below w.heap.size w W → Calls Try.prog 55 #[.agg #[.string (str code), .slice A1 n1 c1, .int .i64 tick, .int .i64 low, .int .i64 high, .int .i64 wide, .int .i64 rule, .int .i64 top, .int .i64 least, .int .i64 part, .slice A2 n2 c2]] W (K W)) := HC
  show Calls Try.prog 50 #[.agg #[.string (str code), .slice A1 n1 c1, .int .i64 tick, .int .i64 low, .int .i64 high, .int .i64 wide, .int .i64 rule, .int .i64 top, .int .i64 least, .int .i64 part, .slice A2 n2 c2]] w _
  obtain ⟨W0, eW0⟩ : ∃ W0, w.alloc (.cells #[.string (str code), .slice A1 n1 c1, .int .i64 tick, .int .i64 low, .int .i64 high, .int .i64 wide, .int .i64 rule, .int .i64 top, .int .i64 least, .int .i64 part, .slice A2 n2 c2] 25) = W0 := ⟨_, rfl⟩
  obtain ⟨pb, epb⟩ : ∃ pb, w.heap.size = pb := ⟨_, rfl⟩
  have hblk0 : W0.heap[pb]? = some (.cells #[.string (str code), .slice A1 n1 c1, .int .i64 tick, .int .i64 low, .int .i64 high, .int .i64 wide, .int .i64 rule, .int .i64 top, .int .i64 least, .int .i64 part, .slice A2 n2 c2] 25 (0, 0)) := by
    rw [← eW0, ← epb]; exact heap_alloc_new w _
  have hB0 : Below w.heap.size w W0 := by rw [← eW0]; exact (Below.refl _ w).alloc (Nat.le_refl _) _
  have hpb0 : pb < W0.heap.size := (Array.getElem?_eq_some_iff.1 hblk0).1
  have kk : ∀ W : World, W.heap[pb]? = some (.cells #[.string (str code), .slice A1 n1 c1, .int .i64 tick, .int .i64 low, .int .i64 high, .int .i64 wide, .int .i64 rule, .int .i64 top, .int .i64 least, .int .i64 part, .slice A2 n2 c2] 25 (0, 0)) → W.cell? ⟨pb, 0, none⟩ = some (.string (str code)) ∧ W.cell? ⟨pb, 1, none⟩ = some (.slice A1 n1 c1) ∧ W.cell? ⟨pb, 2, none⟩ = some (.int .i64 tick) ∧ W.cell? ⟨pb, 3, none⟩ = some (.int .i64 low) ∧ W.cell? ⟨pb, 4, none⟩ = some (.int .i64 high) ∧ W.cell? ⟨pb, 5, none⟩ = some (.int .i64 wide) ∧ W.cell? ⟨pb, 6, none⟩ = some (.int .i64 rule) ∧ W.cell? ⟨pb, 7, none⟩ = some (.int .i64 top) ∧ W.cell? ⟨pb, 8, none⟩ = some (.int .i64 least) ∧ W.cell? ⟨pb, 9, none⟩ = some (.int .i64 part) ∧ W.cell? ⟨pb, 10, none⟩ = some (.slice A2 n2 c2) := by
    intro W hb
    refine ⟨?_, ?_, ?_, ?_, ?_, ?_, ?_, ?_, ?_, ?_, ?_⟩ <;> (rw [Lib.cell_of_heap hb]; rfl)
  replace kk := Lib.hid kk
  replace eW0 := Lib.hid eW0
  replace epb := Lib.hid epb
  have a0 : (w.alloc (.cells #[.string (str code), .slice A1 n1 c1, .int .i64 tick, .int .i64 low, .int .i64 high, .int .i64 wide, .int .i64 rule, .int .i64 top, .int .i64 least, .int .i64 part, .slice A2 n2 c2] 25)).cell? ⟨w.heap.size, 0, none⟩ = some (.string (str code)) := by
    rw [eW0.out, epb.out]; exact (kk.out W0 hblk0).1
  have a1 : (w.alloc (.cells #[.string (str code), .slice A1 n1 c1, .int .i64 tick, .int .i64 low, .int .i64 high, .int .i64 wide, .int .i64 rule, .int .i64 top, .int .i64 least, .int .i64 part, .slice A2 n2 c2] 25)).cell? ⟨w.heap.size, 1, none⟩ = some (.slice A1 n1 c1) := by
    rw [eW0.out, epb.out]; exact (kk.out W0 hblk0).2.1
  have a2 : (w.alloc (.cells #[.string (str code), .slice A1 n1 c1, .int .i64 tick, .int .i64 low, .int .i64 high, .int .i64 wide, .int .i64 rule, .int .i64 top, .int .i64 least, .int .i64 part, .slice A2 n2 c2] 25)).cell? ⟨w.heap.size, 2, none⟩ = some (.int .i64 tick) := by
    rw [eW0.out, epb.out]; exact (kk.out W0 hblk0).2.2.1
  have a3 : (w.alloc (.cells #[.string (str code), .slice A1 n1 c1, .int .i64 tick, .int .i64 low, .int .i64 high, .int .i64 wide, .int .i64 rule, .int .i64 top, .int .i64 least, .int .i64 part, .slice A2 n2 c2] 25)).cell? ⟨w.heap.size, 3, none⟩ = some (.int .i64 low) := by
    rw [eW0.out, epb.out]; exact (kk.out W0 hblk0).2.2.2.1
  have a4 : (w.alloc (.cells #[.string (str code), .slice A1 n1 c1, .int .i64 tick, .int .i64 low, .int .i64 high, .int .i64 wide, .int .i64 rule, .int .i64 top, .int .i64 least, .int .i64 part, .slice A2 n2 c2] 25)).cell? ⟨w.heap.size, 4, none⟩ = some (.int .i64 high) := by
    rw [eW0.out, epb.out]; exact (kk.out W0 hblk0).2.2.2.2.1
  have a5 : (w.alloc (.cells #[.string (str code), .slice A1 n1 c1, .int .i64 tick, .int .i64 low, .int .i64 high, .int .i64 wide, .int .i64 rule, .int .i64 top, .int .i64 least, .int .i64 part, .slice A2 n2 c2] 25)).cell? ⟨w.heap.size, 5, none⟩ = some (.int .i64 wide) := by
    rw [eW0.out, epb.out]; exact (kk.out W0 hblk0).2.2.2.2.2.1
  have a6 : (w.alloc (.cells #[.string (str code), .slice A1 n1 c1, .int .i64 tick, .int .i64 low, .int .i64 high, .int .i64 wide, .int .i64 rule, .int .i64 top, .int .i64 least, .int .i64 part, .slice A2 n2 c2] 25)).cell? ⟨w.heap.size, 6, none⟩ = some (.int .i64 rule) := by
    rw [eW0.out, epb.out]; exact (kk.out W0 hblk0).2.2.2.2.2.2.1
  have a7 : (w.alloc (.cells #[.string (str code), .slice A1 n1 c1, .int .i64 tick, .int .i64 low, .int .i64 high, .int .i64 wide, .int .i64 rule, .int .i64 top, .int .i64 least, .int .i64 part, .slice A2 n2 c2] 25)).cell? ⟨w.heap.size, 7, none⟩ = some (.int .i64 top) := by
    rw [eW0.out, epb.out]; exact (kk.out W0 hblk0).2.2.2.2.2.2.2.1
  have a8 : (w.alloc (.cells #[.string (str code), .slice A1 n1 c1, .int .i64 tick, .int .i64 low, .int .i64 high, .int .i64 wide, .int .i64 rule, .int .i64 top, .int .i64 least, .int .i64 part, .slice A2 n2 c2] 25)).cell? ⟨w.heap.size, 8, none⟩ = some (.int .i64 least) := by
    rw [eW0.out, epb.out]; exact (kk.out W0 hblk0).2.2.2.2.2.2.2.2.1
  have a9 : (w.alloc (.cells #[.string (str code), .slice A1 n1 c1, .int .i64 tick, .int .i64 low, .int .i64 high, .int .i64 wide, .int .i64 rule, .int .i64 top, .int .i64 least, .int .i64 part, .slice A2 n2 c2] 25)).cell? ⟨w.heap.size, 9, none⟩ = some (.int .i64 part) := by
    rw [eW0.out, epb.out]; exact (kk.out W0 hblk0).2.2.2.2.2.2.2.2.2.1
  have a10 : (w.alloc (.cells #[.string (str code), .slice A1 n1 c1, .int .i64 tick, .int .i64 low, .int .i64 high, .int .i64 wide, .int .i64 rule, .int .i64 top, .int .i64 least, .int .i64 part, .slice A2 n2 c2] 25)).cell? ⟨w.heap.size, 10, none⟩ = some (.slice A2 n2 c2) := by
    rw [eW0.out, epb.out]; exact (kk.out W0 hblk0).2.2.2.2.2.2.2.2.2.2
  go_enter Try.func50, Try.ntmps50
  go_wp2_with fail
  rw [eW0.out]
  rw [epb.out]
  clear a0 a1 a2 a3 a4 a5 a6 a7 a8 a9 a10 eW0
  obtain ⟨k0, k1, k2, k3, k4, k5, k6, k7, k8, k9, k10⟩ := kk.out W0 hblk0
  refine (HC.out W0 hB0).mono ?_
  intro e w1 hk
  obtain ⟨⟨A, c, rfl, hc1, hc2⟩, b1⟩ := hK2.out _ _ _ hk
  have HB := Lib.hid (hB0.trans (b1.mono hB0.size))
  clear hk b1 k0 k1 k2 k3 k4 k5 k6 k7 k8 k9 k10 hblk0 hpb0 hB0
  go_wp2_with fail
  go_ret
  exact ⟨rfl, HB.out⟩
end Go.Proofs.Ytdeofifidjbolaa
namespace Go.Proofs.Ytdeofifidjbolaa
open Go.RowKit
set_option linter.unusedVariables false
set_option linter.unusedSimpArgs false

theorem results_cell_row_tmp {P : Program} {fn : Func} {p u : Tmp} {ty : TypeId} (h : fn.results = #[.cell p ty, .tmp u]) (tmps : Array Value) (w : World) (g : Nat) (t : TypeId) (cs : Array Value) (fr : Nat × Nat) (d : TypeDesc)
    (hp : tmps.getD p undef = .pointer (some ⟨g, 0, none⟩)) (hg : w.heap[g]? = some (.cells cs t fr))
    (hu : P.underlying ty = some d) (hd : (match d with | .struct _ | .array _ _ => true | _ => false) = true) (hi : (P.info? ty).map (·.size) = some cs.size) :
    (results fn tmps).run P w = .ok (.tuple #[.agg cs, tmps.getD u undef]) w := by
  rw [results_cell_tmp h, hp]
  simp [asAddr, run_loadVar_row w g t ty cs fr d hg hu hd hi, Result.andThen]
theorem pair_facts {w : World} {g : Nat} {x y : Value} {t : TypeId} (h : w.heap[g]? = some (.cells #[x, y] t (0, 0))) : w.cell? ⟨g, 0, none⟩ = some x ∧ w.cell? ⟨g, 1, none⟩ = some y ∧ w.frozen? ⟨g, 0, none⟩ = false ∧ w.frozen? ⟨g, 1, none⟩ = false ∧
    (∀ u, (w.setCell ⟨g, 0, none⟩ u).cell? ⟨g, 1, none⟩ = some y) ∧ (∀ u v, ((w.setCell ⟨g, 0, none⟩ u).setCell ⟨g, 1, none⟩ v).heap[g]? = some (.cells #[u, v] t (0, 0))) := by
  have hs : ∀ u, (w.setCell ⟨g, 0, none⟩ u).heap[g]? = some (.cells #[u, y] t (0, 0)) := fun u => heap_setCell_same w g 0 _ t u h
  refine ⟨?_, ?_, frozen_of_row w g 0 _ t h, frozen_of_row w g 1 _ t h, fun u => ?_, fun u v => ?_⟩
  · rw [cell_of_row w g 0 _ t _ h]; rfl
  · rw [cell_of_row w g 1 _ t _ h]; rfl
  · rw [cell_of_row _ g 1 _ t _ (hs u)]; rfl
  · exact heap_setCell_same _ g 1 _ t v (hs u)
set_option maxRecDepth 100000 in
set_option maxHeartbeats 1600000 in
theorem Instrument_any (p : PD) (inst : Int) (w : World) (h : Hid (p.Ok w)) (hi : I64 inst) :
    Calls Try.prog 37 #[p.val, .int .i64 inst] w fun e w' => e = .returned (.tuple #[.agg #[.int .i64 (legsL p inst).1, .int .i64 (legsL p inst).2.1], .bool (decide (0 ≤ inst ∧ inst < cntL p))]) ∧ Below w.heap.size w w' := by
  have HC : Hid (∀ W, Below w.heap.size w W → Calls Try.prog 55 #[p.val] W _) := Lib.hid (fun W b => Instruments_any p W (Lib.hid (h.out.below b)))
  obtain ⟨c0, hc0⟩ : ∃ e, cntL p = e := ⟨_, rfl⟩
  obtain ⟨I, hI⟩ : ∃ I, (fun k : Nat => (legsL p k).1) = I := ⟨_, rfl⟩
  obtain ⟨J, hJ⟩ : ∃ J, (fun k : Nat => (legsL p k).2.1) = J := ⟨_, rfl⟩
  have h21 := cntL_le p
  rw [hc0, hI, hJ] at HC
  rw [hc0] at h21
  obtain ⟨⟨x, y, z⟩, hL⟩ : ∃ l, legsL p inst = l := ⟨_, rfl⟩
  have r1 : ¬ (0 ≤ inst ∧ inst < c0) → x = 0 ∧ y = 0 := fun g => by
    rw [← hc0] at g
    have := legs_none g
    rw [hL] at this
    injection this with g1 g2
    injection g2 with g2 g3
    exact ⟨g1, g2⟩
  have r2 : ∀ k : Nat, inst = k → I k = x ∧ J k = y := fun k g => by
    subst g
    rw [← hI, ← hJ]
    show (legsL p k).1 = x ∧ (legsL p k).2.1 = y
    rw [hL]
    exact ⟨rfl, rfl⟩
  rw [hL, hc0]
  obtain ⟨v, hv⟩ : ∃ v, decide (0 ≤ inst ∧ inst < (c0 : Int)) = v := ⟨_, rfl⟩
  rw [hv]
  replace hv := Lib.hid hv
  replace r1 := Lib.hid r1
  replace r2 := Lib.hid r2
  obtain ⟨hi1, hi2⟩ := hi
  clear hL hc0 hI hJ
  have l1 := h.out.l1
  have m1 := h.out.m1
  have l2 := h.out.l2
  have m2 := h.out.m2
  have hco := h.out.code
  obtain ⟨ti1, ti2⟩ := h.out.tick
  obtain ⟨lo1, lo2⟩ := h.out.low
  obtain ⟨hg1, hg2⟩ := h.out.high
  obtain ⟨wi1, wi2⟩ := h.out.wide
  obtain ⟨ru1, ru2⟩ := h.out.rule
  obtain ⟨to1, to2⟩ := h.out.top
  obtain ⟨le1, le2⟩ := h.out.least
  obtain ⟨pa1, pa2⟩ := h.out.part
  have HO1 : Hid (∀ W, Below w.heap.size w W → Nums W p.A1 p.n1 p.Q) := Lib.hid (fun W b => h.out.months.below b)
  have HO2 : Hid (∀ W, Below w.heap.size w W → Nums W p.A2 p.n2 p.R) := Lib.hid (fun W b => h.out.settle.below b)
  clear h
  obtain ⟨K, hK⟩ : ∃ K : World → Ending → World → Prop, (fun W e w' => (∃ A c, e = .returned (.slice A c0 c) ∧ c0 ≤ c ∧ c ≤ 21 ∧ Pairs w' A c0 I J) ∧ Below W.heap.size W w') = K := ⟨_, rfl⟩
  have hK2 : ∀ W e w', K W e w' → (∃ A c, e = .returned (.slice A c0 c) ∧ c0 ≤ c ∧ c ≤ 21 ∧ Pairs w' A c0 I J) ∧ Below W.heap.size W w' := fun W e w' g => by
    rw [← hK] at g
    exact g
  replace HC : Hid (∀ W, Below w.heap.size w W → Calls Try.prog 55 #[p.val] W (K W)) := Lib.hid (fun W b => by rw [← hK]; exact HC.out W b)
  replace hK2 := Lib.hid hK2
  clear hK
  obtain ⟨code, A1, n1, c1, tick, low, high, wide, rule, top, least, part, A2, n2, c2, Q, R⟩ := p
  simp only at l1 m1 l2 m2 hco ti1 ti2 lo1 lo2 hg1 hg2 wi1 wi2 ru1 ru2 to1 to2 le1 le2 pa1 pa2 HO1 HO2 
  replace HC : Hid (∀ W, Below w.heap.size w W → Calls Try.prog 55 #[.agg #[.string (str code), .slice A1 n1 c1, .int .i64 tick, .int .i64 low, .int .i64 high, .int .i64 wide, .int .i64 rule, .int .i64 top, .int .i64 least, .int .i64 part, .slice A2 n2 c2]] W (K W)) := HC
  show Calls Try.prog 37 #[.agg #[.string (str code), .slice A1 n1 c1, .int .i64 tick, .int .i64 low, .int .i64 high, .int .i64 wide, .int .i64 rule, .int .i64 top, .int .i64 least, .int .i64 part, .slice A2 n2 c2], .int .i64 inst] w _
  obtain ⟨W0, eW0⟩ : ∃ W0, w.alloc (.cells #[.string (str code), .slice A1 n1 c1, .int .i64 tick, .int .i64 low, .int .i64 high, .int .i64 wide, .int .i64 rule, .int .i64 top, .int .i64 least, .int .i64 part, .slice A2 n2 c2] 25) = W0 := ⟨_, rfl⟩
  obtain ⟨pb, epb⟩ : ∃ pb, w.heap.size = pb := ⟨_, rfl⟩
  have hblk0 : W0.heap[pb]? = some (.cells #[.string (str code), .slice A1 n1 c1, .int .i64 tick, .int .i64 low, .int .i64 high, .int .i64 wide, .int .i64 rule, .int .i64 top, .int .i64 least, .int .i64 part, .slice A2 n2 c2] 25 (0, 0)) := by
    rw [← eW0, ← epb]; exact heap_alloc_new w _
  have hB0 : Below w.heap.size w W0 := by rw [← eW0]; exact (Below.refl _ w).alloc (Nat.le_refl _) _
  have hpb0 : pb < W0.heap.size := (Array.getElem?_eq_some_iff.1 hblk0).1
  have kk : ∀ W : World, W.heap[pb]? = some (.cells #[.string (str code), .slice A1 n1 c1, .int .i64 tick, .int .i64 low, .int .i64 high, .int .i64 wide, .int .i64 rule, .int .i64 top, .int .i64 least, .int .i64 part, .slice A2 n2 c2] 25 (0, 0)) → W.cell? ⟨pb, 0, none⟩ = some (.string (str code)) ∧ W.cell? ⟨pb, 1, none⟩ = some (.slice A1 n1 c1) ∧ W.cell? ⟨pb, 2, none⟩ = some (.int .i64 tick) ∧ W.cell? ⟨pb, 3, none⟩ = some (.int .i64 low) ∧ W.cell? ⟨pb, 4, none⟩ = some (.int .i64 high) ∧ W.cell? ⟨pb, 5, none⟩ = some (.int .i64 wide) ∧ W.cell? ⟨pb, 6, none⟩ = some (.int .i64 rule) ∧ W.cell? ⟨pb, 7, none⟩ = some (.int .i64 top) ∧ W.cell? ⟨pb, 8, none⟩ = some (.int .i64 least) ∧ W.cell? ⟨pb, 9, none⟩ = some (.int .i64 part) ∧ W.cell? ⟨pb, 10, none⟩ = some (.slice A2 n2 c2) := by
    intro W hb
    refine ⟨?_, ?_, ?_, ?_, ?_, ?_, ?_, ?_, ?_, ?_, ?_⟩ <;> (rw [Lib.cell_of_heap hb]; rfl)
  replace kk := Lib.hid kk
  replace eW0 := Lib.hid eW0
  replace epb := Lib.hid epb
  have a0 : (w.alloc (.cells #[.string (str code), .slice A1 n1 c1, .int .i64 tick, .int .i64 low, .int .i64 high, .int .i64 wide, .int .i64 rule, .int .i64 top, .int .i64 least, .int .i64 part, .slice A2 n2 c2] 25)).cell? ⟨w.heap.size, 0, none⟩ = some (.string (str code)) := by
    rw [eW0.out, epb.out]; exact (kk.out W0 hblk0).1
  have a1 : (w.alloc (.cells #[.string (str code), .slice A1 n1 c1, .int .i64 tick, .int .i64 low, .int .i64 high, .int .i64 wide, .int .i64 rule, .int .i64 top, .int .i64 least, .int .i64 part, .slice A2 n2 c2] 25)).cell? ⟨w.heap.size, 1, none⟩ = some (.slice A1 n1 c1) := by
    rw [eW0.out, epb.out]; exact (kk.out W0 hblk0).2.1
  have a2 : (w.alloc (.cells #[.string (str code), .slice A1 n1 c1, .int .i64 tick, .int .i64 low, .int .i64 high, .int .i64 wide, .int .i64 rule, .int .i64 top, .int .i64 least, .int .i64 part, .slice A2 n2 c2] 25)).cell? ⟨w.heap.size, 2, none⟩ = some (.int .i64 tick) := by
    rw [eW0.out, epb.out]; exact (kk.out W0 hblk0).2.2.1
  have a3 : (w.alloc (.cells #[.string (str code), .slice A1 n1 c1, .int .i64 tick, .int .i64 low, .int .i64 high, .int .i64 wide, .int .i64 rule, .int .i64 top, .int .i64 least, .int .i64 part, .slice A2 n2 c2] 25)).cell? ⟨w.heap.size, 3, none⟩ = some (.int .i64 low) := by
    rw [eW0.out, epb.out]; exact (kk.out W0 hblk0).2.2.2.1
  have a4 : (w.alloc (.cells #[.string (str code), .slice A1 n1 c1, .int .i64 tick, .int .i64 low, .int .i64 high, .int .i64 wide, .int .i64 rule, .int .i64 top, .int .i64 least, .int .i64 part, .slice A2 n2 c2] 25)).cell? ⟨w.heap.size, 4, none⟩ = some (.int .i64 high) := by
    rw [eW0.out, epb.out]; exact (kk.out W0 hblk0).2.2.2.2.1
  have a5 : (w.alloc (.cells #[.string (str code), .slice A1 n1 c1, .int .i64 tick, .int .i64 low, .int .i64 high, .int .i64 wide, .int .i64 rule, .int .i64 top, .int .i64 least, .int .i64 part, .slice A2 n2 c2] 25)).cell? ⟨w.heap.size, 5, none⟩ = some (.int .i64 wide) := by
    rw [eW0.out, epb.out]; exact (kk.out W0 hblk0).2.2.2.2.2.1
  have a6 : (w.alloc (.cells #[.string (str code), .slice A1 n1 c1, .int .i64 tick, .int .i64 low, .int .i64 high, .int .i64 wide, .int .i64 rule, .int .i64 top, .int .i64 least, .int .i64 part, .slice A2 n2 c2] 25)).cell? ⟨w.heap.size, 6, none⟩ = some (.int .i64 rule) := by
    rw [eW0.out, epb.out]; exact (kk.out W0 hblk0).2.2.2.2.2.2.1
  have a7 : (w.alloc (.cells #[.string (str code), .slice A1 n1 c1, .int .i64 tick, .int .i64 low, .int .i64 high, .int .i64 wide, .int .i64 rule, .int .i64 top, .int .i64 least, .int .i64 part, .slice A2 n2 c2] 25)).cell? ⟨w.heap.size, 7, none⟩ = some (.int .i64 top) := by
    rw [eW0.out, epb.out]; exact (kk.out W0 hblk0).2.2.2.2.2.2.2.1
  have a8 : (w.alloc (.cells #[.string (str code), .slice A1 n1 c1, .int .i64 tick, .int .i64 low, .int .i64 high, .int .i64 wide, .int .i64 rule, .int .i64 top, .int .i64 least, .int .i64 part, .slice A2 n2 c2] 25)).cell? ⟨w.heap.size, 8, none⟩ = some (.int .i64 least) := by
    rw [eW0.out, epb.out]; exact (kk.out W0 hblk0).2.2.2.2.2.2.2.2.1
  have a9 : (w.alloc (.cells #[.string (str code), .slice A1 n1 c1, .int .i64 tick, .int .i64 low, .int .i64 high, .int .i64 wide, .int .i64 rule, .int .i64 top, .int .i64 least, .int .i64 part, .slice A2 n2 c2] 25)).cell? ⟨w.heap.size, 9, none⟩ = some (.int .i64 part) := by
    rw [eW0.out, epb.out]; exact (kk.out W0 hblk0).2.2.2.2.2.2.2.2.2.1
  have a10 : (w.alloc (.cells #[.string (str code), .slice A1 n1 c1, .int .i64 tick, .int .i64 low, .int .i64 high, .int .i64 wide, .int .i64 rule, .int .i64 top, .int .i64 least, .int .i64 part, .slice A2 n2 c2] 25)).cell? ⟨w.heap.size, 10, none⟩ = some (.slice A2 n2 c2) := by
    rw [eW0.out, epb.out]; exact (kk.out W0 hblk0).2.2.2.2.2.2.2.2.2.2
  go_enter Try.func37, Try.ntmps37
  go_wp2_with fail
  have hs0 : W0.heap.size = pb + 1 := by rw [← eW0.out, World.size_alloc, epb.out]
  rw [eW0.out]
  rw [epb.out]
  clear a0 a1 a2 a3 a4 a5 a6 a7 a8 a9 a10 eW0
  obtain ⟨k0, k1, k2, k3, k4, k5, k6, k7, k8, k9, k10⟩ := kk.out W0 hblk0
  obtain ⟨W1, eW1⟩ : ∃ W, W0.alloc (.cells #[.int .i64 0, .int .i64 0] 77) = W := ⟨_, rfl⟩
  rw [eW1]
  have hq1 : W1.heap[pb + 1]? = some (.cells #[.int .i64 0, .int .i64 0] 77 (0, 0)) := by rw [← eW1, ← hs0]; exact heap_alloc_new W0 _
  have hB1 : Below w.heap.size w W1 := by rw [← eW1]; exact hB0.alloc hB0.size _
  have hpl : w.heap.size ≤ pb := by rw [epb.out]; exact Nat.le_refl _
  clear eW1 k0 k1 k2 k3 k4 k5 k6 k7 k8 k9 k10 hblk0 hpb0 hB0
  refine (HC.out W1 hB1).mono ?_
  intro e w2 hk
  obtain ⟨⟨A, c, rfl, hc1, hc2, hPr⟩, b2⟩ := hK2.out _ _ _ hk
  have hq2 : w2.heap[pb + 1]? = _ := (b2.block (pb + 1) (Array.getElem?_eq_some_iff.1 hq1).1).trans hq1
  have HB := Lib.hid (hB1.trans (b2.mono hB1.size))
  clear hk hK2 HC b2 hB1 hq1 hs0
  by_cases q1 : inst < 0
  · have d1 : decide (inst < 0) = true := decide_eq_true q1
    obtain ⟨rfl, rfl⟩ := r1.out (by omega)
    have hvv := Lib.hid (show v = false from by rw [← hv.out]; exact decide_eq_false (by omega))
    clear q1 hPr
    obtain ⟨s0, s1, z0, z1, s2, s3⟩ := pair_facts hq2
    have s2 := s2 (.int .i64 0)
    have s3 := Lib.hid (s3 (.int .i64 0) (.int .i64 0))
    clear hq2
    go_wp2_with fail
    (try simp only [Exit.inBlock, Exit.then])
    refine bodyPost_ret (results_cell_row_tmp rfl _ _ (pb + 1) 77 _ (0, 0) _ rfl s3.out rfl rfl rfl) rfl ?_
    exact ⟨by rw [hvv.out]; rfl, (HB.out.setCell (by show w.heap.size ≤ pb + 1; omega) _).setCell (by show w.heap.size ≤ pb + 1; omega) _⟩
  · have d1 : decide (inst < 0) = false := decide_eq_false q1
    obtain ⟨k, rfl⟩ : ∃ k : Nat, inst = k := ⟨inst.toNat, by omega⟩
    by_cases q2 : c0 ≤ k
    · have d2 : decide ((c0 : Int) ≤ (k : Int)) = true := decide_eq_true (by omega)
      have d4 : decide (c0 ≤ k) = true := decide_eq_true q2
      obtain ⟨rfl, rfl⟩ := r1.out (by omega)
      have hvv := Lib.hid (show v = false from by rw [← hv.out]; exact decide_eq_false (by omega))
      clear q1 q2 hPr
      obtain ⟨s0, s1, z0, z1, s2, s3⟩ := pair_facts hq2
      have s2 := s2 (.int .i64 0)
      have s3 := Lib.hid (s3 (.int .i64 0) (.int .i64 0))
      clear hq2
      go_wp2_with fail
      (try simp only [Exit.inBlock, Exit.then])
      refine bodyPost_ret (results_cell_row_tmp rfl _ _ (pb + 1) 77 _ (0, 0) _ rfl s3.out rfl rfl rfl) rfl ?_
      exact ⟨by rw [hvv.out]; rfl, (HB.out.setCell (by show w.heap.size ≤ pb + 1; omega) _).setCell (by show w.heap.size ≤ pb + 1; omega) _⟩
    · have d2 : decide ((c0 : Int) ≤ (k : Int)) = false := decide_eq_false (by omega)
      have d4 : decide (c0 ≤ k) = false := decide_eq_false q2
      obtain ⟨b, rfl, g1, g2⟩ := hPr k (by omega)
      obtain ⟨rfl, rfl⟩ := r2.out k rfl
      have hvv := Lib.hid (show v = true from by rw [← hv.out]; exact decide_eq_true (by omega))
      have d3 : (k : Int) < (c0 : Int) := by omega
      clear q1 q2 hPr
      obtain ⟨s0, s1, z0, z1, s2, s3⟩ := pair_facts hq2
      have s2 := s2 (.int .i64 (I k))
      have s3 := Lib.hid (s3 (.int .i64 (I k)) (.int .i64 (J k)))
      clear hq2
      go_wp2_with fail
      (try simp only [Exit.inBlock, Exit.then])
      refine bodyPost_ret (results_cell_row_tmp rfl _ _ (pb + 1) 77 _ (0, 0) _ rfl s3.out rfl rfl rfl) rfl ?_
      exact ⟨by rw [hvv.out]; rfl, (HB.out.setCell (by show w.heap.size ≤ pb + 1; omega) _).setCell (by show w.heap.size ≤ pb + 1; omega) _⟩
end Go.Proofs.Ytdeofifidjbolaa
namespace Go.Proofs.Ytdeofifidjbolaa
open Go.RowKit
set_option linter.unusedVariables false
set_option linter.unusedSimpArgs false

set_option maxRecDepth 100000 in
set_option maxHeartbeats 1600000 in
theorem PLegs_any (p : PD) (inst : Int) (w : World) (h : Hid (p.Ok w)) (hi : I64 inst) :
    Calls Try.prog 20 #[p.val, .int .i64 inst] w fun e w' => e = .returned (.tuple #[.int .i64 (legsL p inst).1, .int .i64 (legsL p inst).2.1, .bool (legsL p inst).2.2]) ∧ Below w.heap.size w w' := by
  have HI : Hid (∀ W, Below w.heap.size w W → Calls Try.prog 37 #[p.val, .int .i64 inst] W fun e w' => e = .returned (.tuple #[.agg #[.int .i64 (legsL p inst).1, .int .i64 (legsL p inst).2.1], .bool (decide (0 ≤ inst ∧ inst < cntL p))]) ∧ Below W.heap.size W w') := Lib.hid (fun W b => Instrument_any p inst W (Lib.hid (h.out.below b)) hi)
  have r1 : ¬ (0 ≤ inst ∧ inst < (cntL p : Int)) → legsL p inst = (0, 0, false) := legs_none
  have r2 : (0 ≤ inst ∧ inst < (cntL p : Int)) → (legsL p inst).2.2 = ((legsL p inst).1 != (legsL p inst).2.1) := fun g => legs_spread g.1 g.2
  obtain ⟨⟨x, y, z⟩, hL⟩ : ∃ l, legsL p inst = l := ⟨_, rfl⟩
  rw [hL] at HI r1 r2 ⊢
  simp only at HI r2
  obtain ⟨v, hv⟩ : ∃ v, decide (0 ≤ inst ∧ inst < (cntL p : Int)) = v := ⟨_, rfl⟩
  rw [hv] at HI
  have r3 : v = false → (0, 0, false) = (x, y, z) := fun e => (r1 (of_decide_eq_false (hv.trans e))).symm
  have r4 : v = true → z = (x != y) := fun e => r2 (of_decide_eq_true (hv.trans e))
  replace r3 := Lib.hid r3
  replace r4 := Lib.hid r4
  clear r1 r2 hL hv
  obtain ⟨hi1, hi2⟩ := hi
  have l1 := h.out.l1
  have m1 := h.out.m1
  have l2 := h.out.l2
  have m2 := h.out.m2
  have hco := h.out.code
  obtain ⟨ti1, ti2⟩ := h.out.tick
  obtain ⟨lo1, lo2⟩ := h.out.low
  obtain ⟨hg1, hg2⟩ := h.out.high
  obtain ⟨wi1, wi2⟩ := h.out.wide
  obtain ⟨ru1, ru2⟩ := h.out.rule
  obtain ⟨to1, to2⟩ := h.out.top
  obtain ⟨le1, le2⟩ := h.out.least
  obtain ⟨pa1, pa2⟩ := h.out.part
  have HO1 : Hid (∀ W, Below w.heap.size w W → Nums W p.A1 p.n1 p.Q) := Lib.hid (fun W b => h.out.months.below b)
  have HO2 : Hid (∀ W, Below w.heap.size w W → Nums W p.A2 p.n2 p.R) := Lib.hid (fun W b => h.out.settle.below b)
  clear h
  obtain ⟨code, A1, n1, c1, tick, low, high, wide, rule, top, least, part, A2, n2, c2, Q, R⟩ := p
  simp only at l1 m1 l2 m2 hco ti1 ti2 lo1 lo2 hg1 hg2 wi1 wi2 ru1 ru2 to1 to2 le1 le2 pa1 pa2 HO1 HO2 
  replace HI : Hid (∀ W, Below w.heap.size w W → Calls Try.prog 37 #[.agg #[.string (str code), .slice A1 n1 c1, .int .i64 tick, .int .i64 low, .int .i64 high, .int .i64 wide, .int .i64 rule, .int .i64 top, .int .i64 least, .int .i64 part, .slice A2 n2 c2], .int .i64 inst] W fun e w' => e = .returned (.tuple #[.agg #[.int .i64 x, .int .i64 y], .bool v]) ∧ Below W.heap.size W w') := HI
  show Calls Try.prog 20 #[.agg #[.string (str code), .slice A1 n1 c1, .int .i64 tick, .int .i64 low, .int .i64 high, .int .i64 wide, .int .i64 rule, .int .i64 top, .int .i64 least, .int .i64 part, .slice A2 n2 c2], .int .i64 inst] w _
  obtain ⟨W0, eW0⟩ : ∃ W0, w.alloc (.cells #[.string (str code), .slice A1 n1 c1, .int .i64 tick, .int .i64 low, .int .i64 high, .int .i64 wide, .int .i64 rule, .int .i64 top, .int .i64 least, .int .i64 part, .slice A2 n2 c2] 25) = W0 := ⟨_, rfl⟩
  obtain ⟨pb, epb⟩ : ∃ pb, w.heap.size = pb := ⟨_, rfl⟩
  have hblk0 : W0.heap[pb]? = some (.cells #[.string (str code), .slice A1 n1 c1, .int .i64 tick, .int .i64 low, .int .i64 high, .int .i64 wide, .int .i64 rule, .int .i64 top, .int .i64 least, .int .i64 part, .slice A2 n2 c2] 25 (0, 0)) := by
    rw [← eW0, ← epb]; exact heap_alloc_new w _
  have hB0 : Below w.heap.size w W0 := by rw [← eW0]; exact (Below.refl _ w).alloc (Nat.le_refl _) _
  have hpb0 : pb < W0.heap.size := (Array.getElem?_eq_some_iff.1 hblk0).1
  have kk : ∀ W : World, W.heap[pb]? = some (.cells #[.string (str code), .slice A1 n1 c1, .int .i64 tick, .int .i64 low, .int .i64 high, .int .i64 wide, .int .i64 rule, .int .i64 top, .int .i64 least, .int .i64 part, .slice A2 n2 c2] 25 (0, 0)) → W.cell? ⟨pb, 0, none⟩ = some (.string (str code)) ∧ W.cell? ⟨pb, 1, none⟩ = some (.slice A1 n1 c1) ∧ W.cell? ⟨pb, 2, none⟩ = some (.int .i64 tick) ∧ W.cell? ⟨pb, 3, none⟩ = some (.int .i64 low) ∧ W.cell? ⟨pb, 4, none⟩ = some (.int .i64 high) ∧ W.cell? ⟨pb, 5, none⟩ = some (.int .i64 wide) ∧ W.cell? ⟨pb, 6, none⟩ = some (.int .i64 rule) ∧ W.cell? ⟨pb, 7, none⟩ = some (.int .i64 top) ∧ W.cell? ⟨pb, 8, none⟩ = some (.int .i64 least) ∧ W.cell? ⟨pb, 9, none⟩ = some (.int .i64 part) ∧ W.cell? ⟨pb, 10, none⟩ = some (.slice A2 n2 c2) := by
    intro W hb
    refine ⟨?_, ?_, ?_, ?_, ?_, ?_, ?_, ?_, ?_, ?_, ?_⟩ <;> (rw [Lib.cell_of_heap hb]; rfl)
  replace kk := Lib.hid kk
  replace eW0 := Lib.hid eW0
  replace epb := Lib.hid epb
  have a0 : (w.alloc (.cells #[.string (str code), .slice A1 n1 c1, .int .i64 tick, .int .i64 low, .int .i64 high, .int .i64 wide, .int .i64 rule, .int .i64 top, .int .i64 least, .int .i64 part, .slice A2 n2 c2] 25)).cell? ⟨w.heap.size, 0, none⟩ = some (.string (str code)) := by
    rw [eW0.out, epb.out]; exact (kk.out W0 hblk0).1
  have a1 : (w.alloc (.cells #[.string (str code), .slice A1 n1 c1, .int .i64 tick, .int .i64 low, .int .i64 high, .int .i64 wide, .int .i64 rule, .int .i64 top, .int .i64 least, .int .i64 part, .slice A2 n2 c2] 25)).cell? ⟨w.heap.size, 1, none⟩ = some (.slice A1 n1 c1) := by
    rw [eW0.out, epb.out]; exact (kk.out W0 hblk0).2.1
  have a2 : (w.alloc (.cells #[.string (str code), .slice A1 n1 c1, .int .i64 tick, .int .i64 low, .int .i64 high, .int .i64 wide, .int .i64 rule, .int .i64 top, .int .i64 least, .int .i64 part, .slice A2 n2 c2] 25)).cell? ⟨w.heap.size, 2, none⟩ = some (.int .i64 tick) := by
    rw [eW0.out, epb.out]; exact (kk.out W0 hblk0).2.2.1
  have a3 : (w.alloc (.cells #[.string (str code), .slice A1 n1 c1, .int .i64 tick, .int .i64 low, .int .i64 high, .int .i64 wide, .int .i64 rule, .int .i64 top, .int .i64 least, .int .i64 part, .slice A2 n2 c2] 25)).cell? ⟨w.heap.size, 3, none⟩ = some (.int .i64 low) := by
    rw [eW0.out, epb.out]; exact (kk.out W0 hblk0).2.2.2.1
  have a4 : (w.alloc (.cells #[.string (str code), .slice A1 n1 c1, .int .i64 tick, .int .i64 low, .int .i64 high, .int .i64 wide, .int .i64 rule, .int .i64 top, .int .i64 least, .int .i64 part, .slice A2 n2 c2] 25)).cell? ⟨w.heap.size, 4, none⟩ = some (.int .i64 high) := by
    rw [eW0.out, epb.out]; exact (kk.out W0 hblk0).2.2.2.2.1
  have a5 : (w.alloc (.cells #[.string (str code), .slice A1 n1 c1, .int .i64 tick, .int .i64 low, .int .i64 high, .int .i64 wide, .int .i64 rule, .int .i64 top, .int .i64 least, .int .i64 part, .slice A2 n2 c2] 25)).cell? ⟨w.heap.size, 5, none⟩ = some (.int .i64 wide) := by
    rw [eW0.out, epb.out]; exact (kk.out W0 hblk0).2.2.2.2.2.1
  have a6 : (w.alloc (.cells #[.string (str code), .slice A1 n1 c1, .int .i64 tick, .int .i64 low, .int .i64 high, .int .i64 wide, .int .i64 rule, .int .i64 top, .int .i64 least, .int .i64 part, .slice A2 n2 c2] 25)).cell? ⟨w.heap.size, 6, none⟩ = some (.int .i64 rule) := by
    rw [eW0.out, epb.out]; exact (kk.out W0 hblk0).2.2.2.2.2.2.1
  have a7 : (w.alloc (.cells #[.string (str code), .slice A1 n1 c1, .int .i64 tick, .int .i64 low, .int .i64 high, .int .i64 wide, .int .i64 rule, .int .i64 top, .int .i64 least, .int .i64 part, .slice A2 n2 c2] 25)).cell? ⟨w.heap.size, 7, none⟩ = some (.int .i64 top) := by
    rw [eW0.out, epb.out]; exact (kk.out W0 hblk0).2.2.2.2.2.2.2.1
  have a8 : (w.alloc (.cells #[.string (str code), .slice A1 n1 c1, .int .i64 tick, .int .i64 low, .int .i64 high, .int .i64 wide, .int .i64 rule, .int .i64 top, .int .i64 least, .int .i64 part, .slice A2 n2 c2] 25)).cell? ⟨w.heap.size, 8, none⟩ = some (.int .i64 least) := by
    rw [eW0.out, epb.out]; exact (kk.out W0 hblk0).2.2.2.2.2.2.2.2.1
  have a9 : (w.alloc (.cells #[.string (str code), .slice A1 n1 c1, .int .i64 tick, .int .i64 low, .int .i64 high, .int .i64 wide, .int .i64 rule, .int .i64 top, .int .i64 least, .int .i64 part, .slice A2 n2 c2] 25)).cell? ⟨w.heap.size, 9, none⟩ = some (.int .i64 part) := by
    rw [eW0.out, epb.out]; exact (kk.out W0 hblk0).2.2.2.2.2.2.2.2.2.1
  have a10 : (w.alloc (.cells #[.string (str code), .slice A1 n1 c1, .int .i64 tick, .int .i64 low, .int .i64 high, .int .i64 wide, .int .i64 rule, .int .i64 top, .int .i64 least, .int .i64 part, .slice A2 n2 c2] 25)).cell? ⟨w.heap.size, 10, none⟩ = some (.slice A2 n2 c2) := by
    rw [eW0.out, epb.out]; exact (kk.out W0 hblk0).2.2.2.2.2.2.2.2.2.2
  go_enter Try.func20, Try.ntmps20
  go_wp2_with fail
  rw [eW0.out]
  rw [epb.out]
  clear a0 a1 a2 a3 a4 a5 a6 a7 a8 a9 a10 eW0
  obtain ⟨k0, k1, k2, k3, k4, k5, k6, k7, k8, k9, k10⟩ := kk.out W0 hblk0
  refine (HI.out W0 hB0).mono ?_
  rintro e w1 ⟨rfl, b1⟩
  have hB1 := hB0.trans (b1.mono hB0.size)
  have HB1 := Lib.hid hB1
  obtain ⟨q, eq⟩ : ∃ q, w1.heap.size = q := ⟨_, rfl⟩
  clear b1 k0 k1 k2 k3 k4 k5 k6 k7 k8 k9 k10 hblk0 hpb0 hB0 hB1 HI
  obtain ⟨W2, eW2⟩ : ∃ W, w1.alloc (.cells #[.int .i64 x, .int .i64 y] 77) = W := ⟨_, rfl⟩
  have hq2 : W2.heap[q]? = some (.cells #[.int .i64 x, .int .i64 y] 77 (0, 0)) := by rw [← eW2, ← eq]; exact heap_alloc_new w1 _
  have HB2 := Lib.hid (show Below w.heap.size w W2 from by rw [← eW2]; exact HB1.out.alloc HB1.out.size _)
  obtain ⟨s0, s1, z0, z1, -, -⟩ := pair_facts hq2
  replace eW2 := Lib.hid eW2
  cases v
  · have r5 := Lib.hid (r3.out rfl)
    clear r3 r4
    go_wp2_with fail
    rw [eW2.out]
    (try simp only [Exit.inBlock, Exit.then]); refine bodyPost_ret (results_tmp3 rfl _ _ _) rfl ?_
    exact ⟨by injection r5.out with a b; injection b with b c; rw [← a, ← b, ← c]; rfl, HB2.out⟩
  · have r5 := Lib.hid (r4.out rfl)
    clear r3 r4
    go_upto_region 4 with (fail)
    rw [eW2.out]
    have hz0 : (fun W => W.cell? ⟨q, 0, none⟩ = some (.int .i64 x) ∧ W.cell? ⟨q, 1, none⟩ = some (.int .i64 y) ∧ Below w.heap.size w W) W2 := ⟨s0, s1, HB2.out⟩
    have hSof : Hid (∀ W W' : World, (fun W => W.cell? ⟨q, 0, none⟩ = some (.int .i64 x) ∧ W.cell? ⟨q, 1, none⟩ = some (.int .i64 y) ∧ Below w.heap.size w W) W → Below W.heap.size W W' → (fun W => W.cell? ⟨q, 0, none⟩ = some (.int .i64 x) ∧ W.cell? ⟨q, 1, none⟩ = some (.int .i64 y) ∧ Below w.heap.size w W) W') := Lib.hid (fun W W' h b => ⟨(b.cell (World.block_lt_of_cell? W _ h.1)).trans h.1, (b.cell (World.block_lt_of_cell? W _ h.2.1)).trans h.2.1, h.2.2.trans (b.mono h.2.2.size)⟩)
    have hz0 := hSof.out _ _ hz0 ((Below.refl _ W2).drew)
    simp only at hz0
    clear s0 s1 eW2 HB1 HB2 kk
    go_region_held3 (fun W => W.cell? ⟨q, 0, none⟩ = some (.int .i64 x) ∧ W.cell? ⟨q, 1, none⟩ = some (.int .i64 y) ∧ Below w.heap.size w W) (first | assumption | exact hz0)
      ((go_at_call 38; refine (PSpread_any x y _).mono ?_; rintro e w4 ⟨rfl, b4⟩; have hz1 := hSof.out _ _ (by assumption) b4))
    go_wp2_with fail
    (try simp only [Exit.inBlock, Exit.then]); refine bodyPost_ret (results_tmp3 rfl _ _ _) rfl ?_
    exact ⟨by rw [r5.out]; rfl, hz1.2.2⟩
end Go.Proofs.Ytdeofifidjbolaa
namespace Go.Proofs.Ytdeofifidjbolaa
open Go.RowKit
set_option linter.unusedVariables false
set_option linter.unusedSimpArgs false

set_option maxRecDepth 100000 in
set_option maxHeartbeats 1600000 in
theorem Bands_any (p : PD) (i j : Int) (w : World) (h : Hid (p.Ok w)) (hw : -9223372036854775807 ≤ p.wide) :
    Calls Try.prog 40 #[p.val, .agg #[.int .i64 i, .int .i64 j]] w fun e w' => e = .returned (.tuple #[.int .i64 (if i = j then p.low else -p.wide), .int .i64 (if i = j then p.high else p.wide)]) ∧ Below w.heap.size w w' := by
  have l1 := h.out.l1
  have m1 := h.out.m1
  have l2 := h.out.l2
  have m2 := h.out.m2
  have hco := h.out.code
  obtain ⟨ti1, ti2⟩ := h.out.tick
  obtain ⟨lo1, lo2⟩ := h.out.low
  obtain ⟨hg1, hg2⟩ := h.out.high
  obtain ⟨wi1, wi2⟩ := h.out.wide
  obtain ⟨ru1, ru2⟩ := h.out.rule
  obtain ⟨to1, to2⟩ := h.out.top
  obtain ⟨le1, le2⟩ := h.out.least
  obtain ⟨pa1, pa2⟩ := h.out.part
  have HO1 : Hid (∀ W, Below w.heap.size w W → Nums W p.A1 p.n1 p.Q) := Lib.hid (fun W b => h.out.months.below b)
  have HO2 : Hid (∀ W, Below w.heap.size w W → Nums W p.A2 p.n2 p.R) := Lib.hid (fun W b => h.out.settle.below b)
  clear h
  obtain ⟨x, hx⟩ : ∃ x, (if i = j then p.low else -p.wide) = x := ⟨_, rfl⟩
  obtain ⟨y, hy⟩ : ∃ x, (if i = j then p.high else p.wide) = x := ⟨_, rfl⟩
  rw [hx, hy]
  obtain ⟨code, A1, n1, c1, tick, low, high, wide, rule, top, least, part, A2, n2, c2, Q, R⟩ := p
  simp only at l1 m1 l2 m2 hco ti1 ti2 lo1 lo2 hg1 hg2 wi1 wi2 ru1 ru2 to1 to2 le1 le2 pa1 pa2 HO1 HO2 hw hx hy
  replace hx := Lib.hid hx
  replace hy := Lib.hid hy
  show Calls Try.prog 40 #[.agg #[.string (str code), .slice A1 n1 c1, .int .i64 tick, .int .i64 low, .int .i64 high, .int .i64 wide, .int .i64 rule, .int .i64 top, .int .i64 least, .int .i64 part, .slice A2 n2 c2], .agg #[.int .i64 i, .int .i64 j]] w _
  obtain ⟨W0, eW0⟩ : ∃ W0, w.alloc (.cells #[.string (str code), .slice A1 n1 c1, .int .i64 tick, .int .i64 low, .int .i64 high, .int .i64 wide, .int .i64 rule, .int .i64 top, .int .i64 least, .int .i64 part, .slice A2 n2 c2] 25) = W0 := ⟨_, rfl⟩
  obtain ⟨pb, epb⟩ : ∃ pb, w.heap.size = pb := ⟨_, rfl⟩
  have hblk0 : W0.heap[pb]? = some (.cells #[.string (str code), .slice A1 n1 c1, .int .i64 tick, .int .i64 low, .int .i64 high, .int .i64 wide, .int .i64 rule, .int .i64 top, .int .i64 least, .int .i64 part, .slice A2 n2 c2] 25 (0, 0)) := by
    rw [← eW0, ← epb]; exact heap_alloc_new w _
  have hB0 : Below w.heap.size w W0 := by rw [← eW0]; exact (Below.refl _ w).alloc (Nat.le_refl _) _
  have hpb0 : pb < W0.heap.size := (Array.getElem?_eq_some_iff.1 hblk0).1
  have kk : ∀ W : World, W.heap[pb]? = some (.cells #[.string (str code), .slice A1 n1 c1, .int .i64 tick, .int .i64 low, .int .i64 high, .int .i64 wide, .int .i64 rule, .int .i64 top, .int .i64 least, .int .i64 part, .slice A2 n2 c2] 25 (0, 0)) → W.cell? ⟨pb, 0, none⟩ = some (.string (str code)) ∧ W.cell? ⟨pb, 1, none⟩ = some (.slice A1 n1 c1) ∧ W.cell? ⟨pb, 2, none⟩ = some (.int .i64 tick) ∧ W.cell? ⟨pb, 3, none⟩ = some (.int .i64 low) ∧ W.cell? ⟨pb, 4, none⟩ = some (.int .i64 high) ∧ W.cell? ⟨pb, 5, none⟩ = some (.int .i64 wide) ∧ W.cell? ⟨pb, 6, none⟩ = some (.int .i64 rule) ∧ W.cell? ⟨pb, 7, none⟩ = some (.int .i64 top) ∧ W.cell? ⟨pb, 8, none⟩ = some (.int .i64 least) ∧ W.cell? ⟨pb, 9, none⟩ = some (.int .i64 part) ∧ W.cell? ⟨pb, 10, none⟩ = some (.slice A2 n2 c2) := by
    intro W hb
    refine ⟨?_, ?_, ?_, ?_, ?_, ?_, ?_, ?_, ?_, ?_, ?_⟩ <;> (rw [Lib.cell_of_heap hb]; rfl)
  replace kk := Lib.hid kk
  replace eW0 := Lib.hid eW0
  replace epb := Lib.hid epb
  have a0 : (w.alloc (.cells #[.string (str code), .slice A1 n1 c1, .int .i64 tick, .int .i64 low, .int .i64 high, .int .i64 wide, .int .i64 rule, .int .i64 top, .int .i64 least, .int .i64 part, .slice A2 n2 c2] 25)).cell? ⟨w.heap.size, 0, none⟩ = some (.string (str code)) := by
    rw [eW0.out, epb.out]; exact (kk.out W0 hblk0).1
  have a1 : (w.alloc (.cells #[.string (str code), .slice A1 n1 c1, .int .i64 tick, .int .i64 low, .int .i64 high, .int .i64 wide, .int .i64 rule, .int .i64 top, .int .i64 least, .int .i64 part, .slice A2 n2 c2] 25)).cell? ⟨w.heap.size, 1, none⟩ = some (.slice A1 n1 c1) := by
    rw [eW0.out, epb.out]; exact (kk.out W0 hblk0).2.1
  have a2 : (w.alloc (.cells #[.string (str code), .slice A1 n1 c1, .int .i64 tick, .int .i64 low, .int .i64 high, .int .i64 wide, .int .i64 rule, .int .i64 top, .int .i64 least, .int .i64 part, .slice A2 n2 c2] 25)).cell? ⟨w.heap.size, 2, none⟩ = some (.int .i64 tick) := by
    rw [eW0.out, epb.out]; exact (kk.out W0 hblk0).2.2.1
  have a3 : (w.alloc (.cells #[.string (str code), .slice A1 n1 c1, .int .i64 tick, .int .i64 low, .int .i64 high, .int .i64 wide, .int .i64 rule, .int .i64 top, .int .i64 least, .int .i64 part, .slice A2 n2 c2] 25)).cell? ⟨w.heap.size, 3, none⟩ = some (.int .i64 low) := by
    rw [eW0.out, epb.out]; exact (kk.out W0 hblk0).2.2.2.1
  have a4 : (w.alloc (.cells #[.string (str code), .slice A1 n1 c1, .int .i64 tick, .int .i64 low, .int .i64 high, .int .i64 wide, .int .i64 rule, .int .i64 top, .int .i64 least, .int .i64 part, .slice A2 n2 c2] 25)).cell? ⟨w.heap.size, 4, none⟩ = some (.int .i64 high) := by
    rw [eW0.out, epb.out]; exact (kk.out W0 hblk0).2.2.2.2.1
  have a5 : (w.alloc (.cells #[.string (str code), .slice A1 n1 c1, .int .i64 tick, .int .i64 low, .int .i64 high, .int .i64 wide, .int .i64 rule, .int .i64 top, .int .i64 least, .int .i64 part, .slice A2 n2 c2] 25)).cell? ⟨w.heap.size, 5, none⟩ = some (.int .i64 wide) := by
    rw [eW0.out, epb.out]; exact (kk.out W0 hblk0).2.2.2.2.2.1
  have a6 : (w.alloc (.cells #[.string (str code), .slice A1 n1 c1, .int .i64 tick, .int .i64 low, .int .i64 high, .int .i64 wide, .int .i64 rule, .int .i64 top, .int .i64 least, .int .i64 part, .slice A2 n2 c2] 25)).cell? ⟨w.heap.size, 6, none⟩ = some (.int .i64 rule) := by
    rw [eW0.out, epb.out]; exact (kk.out W0 hblk0).2.2.2.2.2.2.1
  have a7 : (w.alloc (.cells #[.string (str code), .slice A1 n1 c1, .int .i64 tick, .int .i64 low, .int .i64 high, .int .i64 wide, .int .i64 rule, .int .i64 top, .int .i64 least, .int .i64 part, .slice A2 n2 c2] 25)).cell? ⟨w.heap.size, 7, none⟩ = some (.int .i64 top) := by
    rw [eW0.out, epb.out]; exact (kk.out W0 hblk0).2.2.2.2.2.2.2.1
  have a8 : (w.alloc (.cells #[.string (str code), .slice A1 n1 c1, .int .i64 tick, .int .i64 low, .int .i64 high, .int .i64 wide, .int .i64 rule, .int .i64 top, .int .i64 least, .int .i64 part, .slice A2 n2 c2] 25)).cell? ⟨w.heap.size, 8, none⟩ = some (.int .i64 least) := by
    rw [eW0.out, epb.out]; exact (kk.out W0 hblk0).2.2.2.2.2.2.2.2.1
  have a9 : (w.alloc (.cells #[.string (str code), .slice A1 n1 c1, .int .i64 tick, .int .i64 low, .int .i64 high, .int .i64 wide, .int .i64 rule, .int .i64 top, .int .i64 least, .int .i64 part, .slice A2 n2 c2] 25)).cell? ⟨w.heap.size, 9, none⟩ = some (.int .i64 part) := by
    rw [eW0.out, epb.out]; exact (kk.out W0 hblk0).2.2.2.2.2.2.2.2.2.1
  have a10 : (w.alloc (.cells #[.string (str code), .slice A1 n1 c1, .int .i64 tick, .int .i64 low, .int .i64 high, .int .i64 wide, .int .i64 rule, .int .i64 top, .int .i64 least, .int .i64 part, .slice A2 n2 c2] 25)).cell? ⟨w.heap.size, 10, none⟩ = some (.slice A2 n2 c2) := by
    rw [eW0.out, epb.out]; exact (kk.out W0 hblk0).2.2.2.2.2.2.2.2.2.2
  go_enter Try.func40, Try.ntmps40
  go_wp2_with fail
  have hs0 : W0.heap.size = pb + 1 := by rw [← eW0.out, World.size_alloc, epb.out]
  rw [eW0.out]
  rw [epb.out]
  clear a0 a1 a2 a3 a4 a5 a6 a7 a8 a9 a10 eW0
  obtain ⟨k0, k1, k2, k3, k4, k5, k6, k7, k8, k9, k10⟩ := kk.out W0 hblk0
  obtain ⟨W1, eW1⟩ : ∃ W, W0.alloc (.cells #[.int .i64 i, .int .i64 j] 77) = W := ⟨_, rfl⟩
  rw [eW1]
  have hq1 : W1.heap[pb + 1]? = some (.cells #[.int .i64 i, .int .i64 j] 77 (0, 0)) := by rw [← eW1, ← hs0]; exact heap_alloc_new W0 _
  have hblk1 : W1.heap[pb]? = some (.cells #[.string (str code), .slice A1 n1 c1, .int .i64 tick, .int .i64 low, .int .i64 high, .int .i64 wide, .int .i64 rule, .int .i64 top, .int .i64 least, .int .i64 part, .slice A2 n2 c2] 25 (0, 0)) := by rw [← eW1]; exact (heap_alloc_old _ _ hpb0).trans hblk0
  have hB1 : Below w.heap.size w W1 := by rw [← eW1]; exact hB0.alloc hB0.size _
  have hpb1 : pb < W1.heap.size := (Array.getElem?_eq_some_iff.1 hblk1).1
  have hqb1 : pb + 1 < W1.heap.size := (Array.getElem?_eq_some_iff.1 hq1).1
  have hpl : w.heap.size ≤ pb := by rw [epb.out]; exact Nat.le_refl _
  clear eW1 k0 k1 k2 k3 k4 k5 k6 k7 k8 k9 k10 hblk0 hpb0 hB0
  have HP := PSpread_any i j W1
  by_cases c : i = j
  · have hx2 := hx.out
    have hy2 := hy.out
    rw [if_pos c] at hx2 hy2
    rw [show (i != j) = false from by simp; exact c] at HP
    refine HP.mono ?_
    replace hx2 := Lib.hid hx2
    replace hy2 := Lib.hid hy2
    clear HP c hx hy
    rintro e w2 ⟨rfl, b2⟩
    have hblk2 : w2.heap[pb]? = _ := (b2.block pb hpb1).trans hblk1
    have hq2 : w2.heap[pb + 1]? = _ := (b2.block (pb + 1) hqb1).trans hq1
    have hB2 := hB1.trans (b2.mono hB1.size)
    have hpb2 : pb < w2.heap.size := (Array.getElem?_eq_some_iff.1 hblk2).1
    have hqb2 : pb + 1 < w2.heap.size := (Array.getElem?_eq_some_iff.1 hq2).1
    clear hblk1 hq1 hB1 hpb1 hqb1 b2
    obtain ⟨k0, k1, k2, k3, k4, k5, k6, k7, k8, k9, k10⟩ := kk.out w2 hblk2
    obtain ⟨s0, s1, z0, z1, -, -⟩ := pair_facts hq2
    have HB := Lib.hid hB2
    go_wp2_with fail
    go_quiet (fail)
    go_wp2_with fail
    go_ret2
    exact ⟨by rw [← hx2.out, ← hy2.out]; rfl, below_drewN HB.out _⟩
  · have hx2 := hx.out
    have hy2 := hy.out
    rw [if_neg c] at hx2 hy2
    rw [show (i != j) = true from by simp; exact c] at HP
    refine HP.mono ?_
    replace hx2 := Lib.hid hx2
    replace hy2 := Lib.hid hy2
    clear HP c hx hy
    rintro e w2 ⟨rfl, b2⟩
    have hblk2 : w2.heap[pb]? = _ := (b2.block pb hpb1).trans hblk1
    have hq2 : w2.heap[pb + 1]? = _ := (b2.block (pb + 1) hqb1).trans hq1
    have hB2 := hB1.trans (b2.mono hB1.size)
    have hpb2 : pb < w2.heap.size := (Array.getElem?_eq_some_iff.1 hblk2).1
    have hqb2 : pb + 1 < w2.heap.size := (Array.getElem?_eq_some_iff.1 hq2).1
    clear hblk1 hq1 hB1 hpb1 hqb1 b2
    obtain ⟨k0, k1, k2, k3, k4, k5, k6, k7, k8, k9, k10⟩ := kk.out w2 hblk2
    obtain ⟨s0, s1, z0, z1, -, -⟩ := pair_facts hq2
    have HB := Lib.hid hB2
    have r1 : -9223372036854775808 ≤ -wide := by omega
    have r2 : -wide ≤ 9223372036854775807 := by omega
    go_wp2_with fail
    go_quiet (fail)
    go_wp2_with fail
    go_ret2
    exact ⟨by rw [← hx2.out, ← hy2.out]; rfl, below_drewN HB.out _⟩
end Go.Proofs.Ytdeofifidjbolaa
namespace Go.Proofs.Ytdeofifidjbolaa
open Go.RowKit
set_option linter.unusedVariables false
set_option linter.unusedSimpArgs false

theorem price_eq {p : PD} {inst x : Int} (hz : chk p = 0) (h0 : 0 ≤ inst) (h : inst < cntL p) : priceL p inst x =
    if multB x p.tick = false then 22 else if insB x (if (legsL p inst).1 = (legsL p inst).2.1 then p.low else -p.wide) (if (legsL p inst).1 = (legsL p inst).2.1 then p.high else p.wide) = false then 23 else 0 := by
  have ht := (chk_facts hz).2.2.2.2.1
  unfold priceL
  rw [if_neg (by omega), if_neg (by omega), multB_tmod ht, legs_spread h0 h]
  by_cases c1 : x.tmod p.tick = 0
  · rw [if_neg (show ¬ (x.tmod p.tick ≠ 0) from fun h => h c1), decide_eq_true c1, if_neg (show ¬ true = false by decide)]
    by_cases c : (legsL p inst).1 = (legsL p inst).2.1
    · rw [if_pos c, if_pos c, show ((legsL p inst).1 != (legsL p inst).2.1) = false from by simp; exact c]
      rw [if_neg (show ¬ false = true by decide)]
      by_cases c2 : x < p.low ∨ p.high < x
      · rw [if_pos c2, show insB x p.low p.high = false from decide_eq_false (by omega), if_pos rfl]
      · rw [if_neg c2, show insB x p.low p.high = true from decide_eq_true (by omega), if_neg (by decide)]
    · rw [if_neg c, if_neg c, show ((legsL p inst).1 != (legsL p inst).2.1) = true from by simp; exact c]
      rw [if_pos rfl]
      by_cases c2 : x < -p.wide ∨ p.wide < x
      · rw [if_pos c2, show insB x (-p.wide) p.wide = false from decide_eq_false (by omega), if_pos rfl]
      · rw [if_neg c2, show insB x (-p.wide) p.wide = true from decide_eq_true (by omega), if_neg (by decide)]
  · rw [if_pos c1, decide_eq_false c1, if_pos rfl]
set_option maxRecDepth 100000 in
set_option maxHeartbeats 1600000 in
theorem PPrice_any (p : PD) (inst x0 : Int) (w : World) (h : Hid (p.Ok w)) (hi : I64 inst) (hx : I64 x0) :
    Calls Try.prog 21 #[p.val, .int .i64 inst, .int .i64 x0] w fun e w' => e = .returned (.int .i64 (priceL p inst x0)) ∧ Below w.heap.size w w' := by
  have HI : Hid (∀ W, Below w.heap.size w W → Calls Try.prog 37 #[p.val, .int .i64 inst] W fun e w' => e = .returned (.tuple #[.agg #[.int .i64 (legsL p inst).1, .int .i64 (legsL p inst).2.1], .bool (decide (0 ≤ inst ∧ inst < cntL p))]) ∧ Below W.heap.size W w') := Lib.hid (fun W b => Instrument_any p inst W (Lib.hid (h.out.below b)) hi)
  have HBd : chk p = 0 → ∀ W, Below w.heap.size w W → Calls Try.prog 40 #[p.val, .agg #[.int .i64 (legsL p inst).1, .int .i64 (legsL p inst).2.1]] W _ := fun g W b => Bands_any p (legsL p inst).1 (legsL p inst).2.1 W (Lib.hid (h.out.below b)) (by have := (chk_facts g).2.2.2.2.2.2.2.2.2.1; omega)
  have rp : chk p = 0 → decide (0 ≤ inst ∧ inst < (cntL p : Int)) = true → priceL p inst x0 = _ := fun g e => price_eq g (of_decide_eq_true e).1 (of_decide_eq_true e).2
  have rn : chk p = 0 → decide (0 ≤ inst ∧ inst < (cntL p : Int)) = false → priceL p inst x0 = 20 := fun g e => by
    have := of_decide_eq_false e
    unfold priceL; rw [if_neg (by omega), if_pos (by omega)]
  have rz : chk p ≠ 0 → priceL p inst x0 = 1 := fun g => by unfold priceL; rw [if_pos g]
  obtain ⟨m, hm⟩ : ∃ m, priceL p inst x0 = m := ⟨_, rfl⟩
  rw [hm] at rp rn rz ⊢
  obtain ⟨⟨x, y, z⟩, hL⟩ : ∃ l, legsL p inst = l := ⟨_, rfl⟩
  rw [hL] at HI HBd rp
  simp only at HI HBd rp
  obtain ⟨lo, hlo⟩ : ∃ l, (if x = y then p.low else -p.wide) = l := ⟨_, rfl⟩
  obtain ⟨hg, hhg⟩ : ∃ l, (if x = y then p.high else p.wide) = l := ⟨_, rfl⟩
  rw [hlo, hhg] at HBd rp
  obtain ⟨v, hv⟩ : ∃ v, decide (0 ≤ inst ∧ inst < (cntL p : Int)) = v := ⟨_, rfl⟩
  rw [hv] at HI rp rn
  obtain ⟨e0, h0⟩ : ∃ e, chk p = e := ⟨_, rfl⟩
  rw [h0] at HBd rp rn rz
  have HC : Hid (∀ W, Below w.heap.size w W → Calls Try.prog 39 #[p.val] W fun e w' => e = .returned (.int .i64 e0) ∧ Below W.heap.size W w') := Lib.hid (fun W b => by rw [← h0]; exact PCheck_any p W (Lib.hid (h.out.below b)))
  replace HBd := Lib.hid HBd
  replace rp := Lib.hid rp
  replace rn := Lib.hid rn
  replace rz := Lib.hid rz
  clear hL hv hm h0 hlo hhg
  obtain ⟨hi1, hi2⟩ := hi
  obtain ⟨hx1, hx2⟩ := hx
  have l1 := h.out.l1
  have m1 := h.out.m1
  have l2 := h.out.l2
  have m2 := h.out.m2
  have hco := h.out.code
  obtain ⟨ti1, ti2⟩ := h.out.tick
  obtain ⟨lo1, lo2⟩ := h.out.low
  obtain ⟨hg1, hg2⟩ := h.out.high
  obtain ⟨wi1, wi2⟩ := h.out.wide
  obtain ⟨ru1, ru2⟩ := h.out.rule
  obtain ⟨to1, to2⟩ := h.out.top
  obtain ⟨le1, le2⟩ := h.out.least
  obtain ⟨pa1, pa2⟩ := h.out.part
  have HO1 : Hid (∀ W, Below w.heap.size w W → Nums W p.A1 p.n1 p.Q) := Lib.hid (fun W b => h.out.months.below b)
  have HO2 : Hid (∀ W, Below w.heap.size w W → Nums W p.A2 p.n2 p.R) := Lib.hid (fun W b => h.out.settle.below b)
  clear h
  obtain ⟨code, A1, n1, c1, tick, low, high, wide, rule, top, least, part, A2, n2, c2, Q, R⟩ := p
  simp only at l1 m1 l2 m2 hco ti1 ti2 lo1 lo2 hg1 hg2 wi1 wi2 ru1 ru2 to1 to2 le1 le2 pa1 pa2 HO1 HO2 rp
  replace HBd : Hid (e0 = 0 → ∀ W, Below w.heap.size w W → Calls Try.prog 40 #[.agg #[.string (str code), .slice A1 n1 c1, .int .i64 tick, .int .i64 low, .int .i64 high, .int .i64 wide, .int .i64 rule, .int .i64 top, .int .i64 least, .int .i64 part, .slice A2 n2 c2], .agg #[.int .i64 x, .int .i64 y]] W fun e w' => e = .returned (.tuple #[.int .i64 lo, .int .i64 hg]) ∧ Below W.heap.size W w') := HBd
  replace HC : Hid (∀ W, Below w.heap.size w W → Calls Try.prog 39 #[.agg #[.string (str code), .slice A1 n1 c1, .int .i64 tick, .int .i64 low, .int .i64 high, .int .i64 wide, .int .i64 rule, .int .i64 top, .int .i64 least, .int .i64 part, .slice A2 n2 c2]] W fun e w' => e = .returned (.int .i64 e0) ∧ Below W.heap.size W w') := HC
  replace HI : Hid (∀ W, Below w.heap.size w W → Calls Try.prog 37 #[.agg #[.string (str code), .slice A1 n1 c1, .int .i64 tick, .int .i64 low, .int .i64 high, .int .i64 wide, .int .i64 rule, .int .i64 top, .int .i64 least, .int .i64 part, .slice A2 n2 c2], .int .i64 inst] W fun e w' => e = .returned (.tuple #[.agg #[.int .i64 x, .int .i64 y], .bool v]) ∧ Below W.heap.size W w') := HI
  show Calls Try.prog 21 #[.agg #[.string (str code), .slice A1 n1 c1, .int .i64 tick, .int .i64 low, .int .i64 high, .int .i64 wide, .int .i64 rule, .int .i64 top, .int .i64 least, .int .i64 part, .slice A2 n2 c2], .int .i64 inst, .int .i64 x0] w _
  obtain ⟨W0, eW0⟩ : ∃ W0, w.alloc (.cells #[.string (str code), .slice A1 n1 c1, .int .i64 tick, .int .i64 low, .int .i64 high, .int .i64 wide, .int .i64 rule, .int .i64 top, .int .i64 least, .int .i64 part, .slice A2 n2 c2] 25) = W0 := ⟨_, rfl⟩
  obtain ⟨pb, epb⟩ : ∃ pb, w.heap.size = pb := ⟨_, rfl⟩
  have hblk0 : W0.heap[pb]? = some (.cells #[.string (str code), .slice A1 n1 c1, .int .i64 tick, .int .i64 low, .int .i64 high, .int .i64 wide, .int .i64 rule, .int .i64 top, .int .i64 least, .int .i64 part, .slice A2 n2 c2] 25 (0, 0)) := by
    rw [← eW0, ← epb]; exact heap_alloc_new w _
  have hB0 : Below w.heap.size w W0 := by rw [← eW0]; exact (Below.refl _ w).alloc (Nat.le_refl _) _
  have hpb0 : pb < W0.heap.size := (Array.getElem?_eq_some_iff.1 hblk0).1
  have kk : ∀ W : World, W.heap[pb]? = some (.cells #[.string (str code), .slice A1 n1 c1, .int .i64 tick, .int .i64 low, .int .i64 high, .int .i64 wide, .int .i64 rule, .int .i64 top, .int .i64 least, .int .i64 part, .slice A2 n2 c2] 25 (0, 0)) → W.cell? ⟨pb, 0, none⟩ = some (.string (str code)) ∧ W.cell? ⟨pb, 1, none⟩ = some (.slice A1 n1 c1) ∧ W.cell? ⟨pb, 2, none⟩ = some (.int .i64 tick) ∧ W.cell? ⟨pb, 3, none⟩ = some (.int .i64 low) ∧ W.cell? ⟨pb, 4, none⟩ = some (.int .i64 high) ∧ W.cell? ⟨pb, 5, none⟩ = some (.int .i64 wide) ∧ W.cell? ⟨pb, 6, none⟩ = some (.int .i64 rule) ∧ W.cell? ⟨pb, 7, none⟩ = some (.int .i64 top) ∧ W.cell? ⟨pb, 8, none⟩ = some (.int .i64 least) ∧ W.cell? ⟨pb, 9, none⟩ = some (.int .i64 part) ∧ W.cell? ⟨pb, 10, none⟩ = some (.slice A2 n2 c2) := by
    intro W hb
    refine ⟨?_, ?_, ?_, ?_, ?_, ?_, ?_, ?_, ?_, ?_, ?_⟩ <;> (rw [Lib.cell_of_heap hb]; rfl)
  replace kk := Lib.hid kk
  replace eW0 := Lib.hid eW0
  replace epb := Lib.hid epb
  have a0 : (w.alloc (.cells #[.string (str code), .slice A1 n1 c1, .int .i64 tick, .int .i64 low, .int .i64 high, .int .i64 wide, .int .i64 rule, .int .i64 top, .int .i64 least, .int .i64 part, .slice A2 n2 c2] 25)).cell? ⟨w.heap.size, 0, none⟩ = some (.string (str code)) := by
    rw [eW0.out, epb.out]; exact (kk.out W0 hblk0).1
  have a1 : (w.alloc (.cells #[.string (str code), .slice A1 n1 c1, .int .i64 tick, .int .i64 low, .int .i64 high, .int .i64 wide, .int .i64 rule, .int .i64 top, .int .i64 least, .int .i64 part, .slice A2 n2 c2] 25)).cell? ⟨w.heap.size, 1, none⟩ = some (.slice A1 n1 c1) := by
    rw [eW0.out, epb.out]; exact (kk.out W0 hblk0).2.1
  have a2 : (w.alloc (.cells #[.string (str code), .slice A1 n1 c1, .int .i64 tick, .int .i64 low, .int .i64 high, .int .i64 wide, .int .i64 rule, .int .i64 top, .int .i64 least, .int .i64 part, .slice A2 n2 c2] 25)).cell? ⟨w.heap.size, 2, none⟩ = some (.int .i64 tick) := by
    rw [eW0.out, epb.out]; exact (kk.out W0 hblk0).2.2.1
  have a3 : (w.alloc (.cells #[.string (str code), .slice A1 n1 c1, .int .i64 tick, .int .i64 low, .int .i64 high, .int .i64 wide, .int .i64 rule, .int .i64 top, .int .i64 least, .int .i64 part, .slice A2 n2 c2] 25)).cell? ⟨w.heap.size, 3, none⟩ = some (.int .i64 low) := by
    rw [eW0.out, epb.out]; exact (kk.out W0 hblk0).2.2.2.1
  have a4 : (w.alloc (.cells #[.string (str code), .slice A1 n1 c1, .int .i64 tick, .int .i64 low, .int .i64 high, .int .i64 wide, .int .i64 rule, .int .i64 top, .int .i64 least, .int .i64 part, .slice A2 n2 c2] 25)).cell? ⟨w.heap.size, 4, none⟩ = some (.int .i64 high) := by
    rw [eW0.out, epb.out]; exact (kk.out W0 hblk0).2.2.2.2.1
  have a5 : (w.alloc (.cells #[.string (str code), .slice A1 n1 c1, .int .i64 tick, .int .i64 low, .int .i64 high, .int .i64 wide, .int .i64 rule, .int .i64 top, .int .i64 least, .int .i64 part, .slice A2 n2 c2] 25)).cell? ⟨w.heap.size, 5, none⟩ = some (.int .i64 wide) := by
    rw [eW0.out, epb.out]; exact (kk.out W0 hblk0).2.2.2.2.2.1
  have a6 : (w.alloc (.cells #[.string (str code), .slice A1 n1 c1, .int .i64 tick, .int .i64 low, .int .i64 high, .int .i64 wide, .int .i64 rule, .int .i64 top, .int .i64 least, .int .i64 part, .slice A2 n2 c2] 25)).cell? ⟨w.heap.size, 6, none⟩ = some (.int .i64 rule) := by
    rw [eW0.out, epb.out]; exact (kk.out W0 hblk0).2.2.2.2.2.2.1
  have a7 : (w.alloc (.cells #[.string (str code), .slice A1 n1 c1, .int .i64 tick, .int .i64 low, .int .i64 high, .int .i64 wide, .int .i64 rule, .int .i64 top, .int .i64 least, .int .i64 part, .slice A2 n2 c2] 25)).cell? ⟨w.heap.size, 7, none⟩ = some (.int .i64 top) := by
    rw [eW0.out, epb.out]; exact (kk.out W0 hblk0).2.2.2.2.2.2.2.1
  have a8 : (w.alloc (.cells #[.string (str code), .slice A1 n1 c1, .int .i64 tick, .int .i64 low, .int .i64 high, .int .i64 wide, .int .i64 rule, .int .i64 top, .int .i64 least, .int .i64 part, .slice A2 n2 c2] 25)).cell? ⟨w.heap.size, 8, none⟩ = some (.int .i64 least) := by
    rw [eW0.out, epb.out]; exact (kk.out W0 hblk0).2.2.2.2.2.2.2.2.1
  have a9 : (w.alloc (.cells #[.string (str code), .slice A1 n1 c1, .int .i64 tick, .int .i64 low, .int .i64 high, .int .i64 wide, .int .i64 rule, .int .i64 top, .int .i64 least, .int .i64 part, .slice A2 n2 c2] 25)).cell? ⟨w.heap.size, 9, none⟩ = some (.int .i64 part) := by
    rw [eW0.out, epb.out]; exact (kk.out W0 hblk0).2.2.2.2.2.2.2.2.2.1
  have a10 : (w.alloc (.cells #[.string (str code), .slice A1 n1 c1, .int .i64 tick, .int .i64 low, .int .i64 high, .int .i64 wide, .int .i64 rule, .int .i64 top, .int .i64 least, .int .i64 part, .slice A2 n2 c2] 25)).cell? ⟨w.heap.size, 10, none⟩ = some (.slice A2 n2 c2) := by
    rw [eW0.out, epb.out]; exact (kk.out W0 hblk0).2.2.2.2.2.2.2.2.2.2
  go_enter Try.func21, Try.ntmps21
  go_wp2_with fail
  rw [eW0.out]
  rw [epb.out]
  clear a0 a1 a2 a3 a4 a5 a6 a7 a8 a9 a10 eW0
  obtain ⟨k0, k1, k2, k3, k4, k5, k6, k7, k8, k9, k10⟩ := kk.out W0 hblk0
  refine (HC.out W0 hB0).mono ?_
  rintro e w9 ⟨rfl, b9⟩
  have hB9 := hB0.trans (b9.mono hB0.size)
  have hblk9 : w9.heap[pb]? = _ := (b9.block pb hpb0).trans hblk0
  have hpb9 : pb < w9.heap.size := (Array.getElem?_eq_some_iff.1 hblk9).1
  clear k0 k1 k2 k3 k4 k5 k6 k7 k8 k9 k10 hblk0 hpb0 hB0 HC b9
  by_cases q0 : e0 = 0
  case neg =>
    have f0 : ((e0 : Int) != 0) = true := by simp; omega
    have r5 := Lib.hid (rz.out q0)
    clear q0 rz rp rn HBd hblk9 hpb9
    go_wp2_with fail
    go_ret
    exact ⟨by rw [r5.out]; rfl, hB9⟩
  subst q0
  have f0 : (((0 : Nat) : Int) != 0) = false := by decide
  obtain ⟨k0, k1, k2, k3, k4, k5, k6, k7, k8, k9, k10⟩ := kk.out w9 hblk9
  go_wp2_with fail
  refine (HI.out w9 hB9).mono ?_
  rintro e w1 ⟨rfl, b1⟩
  have hB1 := hB9.trans (b1.mono hB9.size)
  have HB1 := Lib.hid hB1
  have hblk1 : w1.heap[pb]? = _ := (b1.block pb hpb9).trans hblk9
  have hpb1 : pb < w1.heap.size := (Array.getElem?_eq_some_iff.1 hblk1).1
  obtain ⟨q, eq⟩ : ∃ q, w1.heap.size = q := ⟨_, rfl⟩
  clear b1 k0 k1 k2 k3 k4 k5 k6 k7 k8 k9 k10 hblk9 hpb9 hB9 hB1 HI
  obtain ⟨W2, eW2⟩ : ∃ W, w1.alloc (.cells #[.int .i64 x, .int .i64 y] 77) = W := ⟨_, rfl⟩
  have hq2 : W2.heap[q]? = some (.cells #[.int .i64 x, .int .i64 y] 77 (0, 0)) := by rw [← eW2, ← eq]; exact heap_alloc_new w1 _
  have HB2 := Lib.hid (show Below w.heap.size w W2 from by rw [← eW2]; exact HB1.out.alloc HB1.out.size _)
  obtain ⟨s0, s1, z0, z1, -, -⟩ := pair_facts hq2
  replace eW2 := Lib.hid eW2
  have hblk2 : W2.heap[pb]? = some (.cells #[.string (str code), .slice A1 n1 c1, .int .i64 tick, .int .i64 low, .int .i64 high, .int .i64 wide, .int .i64 rule, .int .i64 top, .int .i64 least, .int .i64 part, .slice A2 n2 c2] 25 (0, 0)) := by rw [← eW2.out]; exact (heap_alloc_old _ _ hpb1).trans hblk1
  clear hblk1 hpb1
  obtain ⟨k0, k1, k2, k3, k4, k5, k6, k7, k8, k9, k10⟩ := kk.out W2 hblk2
  cases v
  · have r5 := Lib.hid (rn.out (by first | rfl | trivial) (by first | rfl | trivial))
    clear rp rn rz HBd
    go_wp2_with fail
    rw [eW2.out]
    go_ret
    exact ⟨by rw [r5.out]; rfl, HB2.out⟩
  · have HM := Lib.hid (HBd.out (by first | rfl | trivial) W2 HB2.out)
    have r5 := rp.out (by first | rfl | trivial) (by first | rfl | trivial)
    clear rp rn rz HBd
    obtain ⟨ml, eml⟩ : ∃ b, multB x0 tick = b := ⟨_, rfl⟩
    obtain ⟨il, eil⟩ : ∃ b, insB x0 lo hg = b := ⟨_, rfl⟩
    rw [eml, eil] at r5
    replace r5 := Lib.hid r5
    replace eml := Lib.hid eml
    replace eil := Lib.hid eil
    go_upto_region 6 with (fail)
    rw [eW2.out]
    go_wp2_with fail
    refine HM.out.mono ?_
    rintro e w3 ⟨rfl, b3⟩
    have hblk3 : w3.heap[pb]? = _ := (b3.block pb (Array.getElem?_eq_some_iff.1 hblk2).1).trans hblk2
    have HB3 := Lib.hid (HB2.out.trans (b3.mono HB2.out.size))
    clear b3 HM k0 k1 k2 k3 k4 k5 k6 k7 k8 k9 k10 s0 s1 z0 z1 hblk2 hq2
    obtain ⟨k0, k1, k2, k3, k4, k5, k6, k7, k8, k9, k10⟩ := kk.out w3 hblk3
    go_wp2_with fail
    have HU := Mult_any x0 tick w3 ⟨hx1, hx2⟩ ⟨ti1, ti2⟩
    rw [eml.out] at HU
    refine HU.mono ?_
    clear HU
    rintro e w' ⟨rfl, rfl⟩
    cases ml
    · have r6 := r5.out
      rw [if_pos rfl] at r6
      replace r6 := Lib.hid r6
      clear r5 hblk3
      go_wp2_with fail
      go_ret
      exact ⟨by rw [r6.out]; rfl, HB3.out⟩
    · have r6 := r5.out
      rw [if_neg (by decide)] at r6
      replace r6 := Lib.hid r6
      clear r5 hblk3
      go_wp2_with fail
      have HU := Inside_any x0 lo hg w3
      rw [eil.out] at HU
      refine HU.mono ?_
      clear HU
      rintro e w' ⟨rfl, rfl⟩
      cases il
      · have r7 := Lib.hid (r6.out.trans (if_pos rfl))
        clear r6
        go_wp2_with fail
        go_ret
        exact ⟨by rw [r7.out]; rfl, HB3.out⟩
      · have r7 := Lib.hid (r6.out.trans (if_neg (by decide)))
        clear r6
        go_wp2_with fail
        go_ret
        exact ⟨by rw [r7.out]; rfl, HB3.out⟩
end Go.Proofs.Ytdeofifidjbolaa
namespace Go.Proofs.Ytdeofifidjbolaa
open Go.RowKit
set_option linter.unusedVariables false
set_option linter.unusedSimpArgs false

theorem legs_kind {p : PD} {k : Nat} (h : k < cntL p) : (k < p.n1 → (legsL p k).1 = (legsL p k).2.1) ∧ (p.n1 ≤ k → (legsL p k).1 ≠ (legsL p k).2.1) := by
  have hs := legs_spread (p := p) (inst := k) (by omega) (by omega)
  obtain ⟨-, i, j, e, hi, hj⟩ := legs_range (p := p) (inst := k) (by omega) (by omega)
  rw [e] at hs ⊢
  simp only at hs ⊢
  by_cases c : (i : Int) = (j : Int)
  · refine ⟨fun _ => c, fun g => ?_⟩
    rw [c, decide_eq_true (by omega)] at hs
    simp at hs
  · refine ⟨fun g => ?_, fun _ => c⟩
    rw [decide_eq_false (by omega)] at hs
    simp at hs
    exact absurd (by omega) c
set_option maxRecDepth 100000 in
set_option maxHeartbeats 1600000 in
theorem PSpreads_any (p : PD) (near far : Int) (w : World) (h : Hid (p.Ok w)) (hn : I64 near) (hf : I64 far) :
    Calls Try.prog 66 #[p.val, .int .i64 near, .int .i64 far] w fun e w' => e = .returned (.tuple #[.int .i64 (spreadI p near far).1, .bool (spreadI p near far).2]) ∧ Below w.heap.size w w' := by
  have HC : Hid (∀ W, Below w.heap.size w W → Calls Try.prog 55 #[p.val] W _) := Lib.hid (fun W b => Instruments_any p W (Lib.hid (h.out.below b)))
  obtain ⟨c0, hc0⟩ : ∃ e, cntL p = e := ⟨_, rfl⟩
  obtain ⟨I, hI⟩ : ∃ I, (fun k : Nat => (legsL p k).1) = I := ⟨_, rfl⟩
  obtain ⟨J, hJ⟩ : ∃ J, (fun k : Nat => (legsL p k).2.1) = J := ⟨_, rfl⟩
  have h21 := cntL_le p
  rw [hc0, hI, hJ] at HC
  rw [hc0] at h21
  obtain ⟨⟨x, y⟩, g0⟩ : ∃ c, spreadI p near far = c := ⟨_, rfl⟩
  rw [g0]
  obtain ⟨F, hF⟩ : ∃ F, spreadFrom p near far = F := ⟨_, rfl⟩
  have hF0 : ∀ k, F 0 k = (0, false) := fun k => by rw [← hF]; rfl
  have hFs : ∀ d k, F (d + 1) k = if I k = near ∧ J k = far then ((k : Int), true) else F d (k + 1) := fun d k => by rw [← hF, ← hI, ← hJ]; rfl
  have g1 : F (c0 - p.n1) p.n1 = (x, y) := by rw [← g0, ← hF, ← hc0]; rfl
  have hk : ∀ k, k < c0 → (k < p.n1 → I k = J k) ∧ (p.n1 ≤ k → I k ≠ J k) := fun k g => by rw [← hI, ← hJ]; exact legs_kind (by rw [hc0]; exact g)
  replace g1 := Lib.hid g1
  replace hF0 := Lib.hid hF0
  replace hFs := Lib.hid hFs
  replace hk := Lib.hid hk
  obtain ⟨hn1, hn2⟩ := hn
  obtain ⟨hf1, hf2⟩ := hf
  clear hc0 hI hJ g0 hF
  have l1 := h.out.l1
  have m1 := h.out.m1
  have l2 := h.out.l2
  have m2 := h.out.m2
  have hco := h.out.code
  obtain ⟨ti1, ti2⟩ := h.out.tick
  obtain ⟨lo1, lo2⟩ := h.out.low
  obtain ⟨hg1, hg2⟩ := h.out.high
  obtain ⟨wi1, wi2⟩ := h.out.wide
  obtain ⟨ru1, ru2⟩ := h.out.rule
  obtain ⟨to1, to2⟩ := h.out.top
  obtain ⟨le1, le2⟩ := h.out.least
  obtain ⟨pa1, pa2⟩ := h.out.part
  have HO1 : Hid (∀ W, Below w.heap.size w W → Nums W p.A1 p.n1 p.Q) := Lib.hid (fun W b => h.out.months.below b)
  have HO2 : Hid (∀ W, Below w.heap.size w W → Nums W p.A2 p.n2 p.R) := Lib.hid (fun W b => h.out.settle.below b)
  clear h
  obtain ⟨K, hK⟩ : ∃ K : World → Ending → World → Prop, (fun W e w' => (∃ A c, e = .returned (.slice A c0 c) ∧ c0 ≤ c ∧ c ≤ 21 ∧ Pairs w' A c0 I J) ∧ Below W.heap.size W w') = K := ⟨_, rfl⟩
  have hK2 : ∀ W e w', K W e w' → (∃ A c, e = .returned (.slice A c0 c) ∧ c0 ≤ c ∧ c ≤ 21 ∧ Pairs w' A c0 I J) ∧ Below W.heap.size W w' := fun W e w' g => by
    rw [← hK] at g
    exact g
  replace HC : Hid (∀ W, Below w.heap.size w W → Calls Try.prog 55 #[p.val] W (K W)) := Lib.hid (fun W b => by rw [← hK]; exact HC.out W b)
  replace hK2 := Lib.hid hK2
  clear hK
  obtain ⟨code, A1, n1, c1, tick, low, high, wide, rule, top, least, part, A2, n2, c2, Q, R⟩ := p
  simp only at l1 m1 l2 m2 hco ti1 ti2 lo1 lo2 hg1 hg2 wi1 wi2 ru1 ru2 to1 to2 le1 le2 pa1 pa2 HO1 HO2 g1 hk
  replace HC : Hid (∀ W, Below w.heap.size w W → Calls Try.prog 55 #[.agg #[.string (str code), .slice A1 n1 c1, .int .i64 tick, .int .i64 low, .int .i64 high, .int .i64 wide, .int .i64 rule, .int .i64 top, .int .i64 least, .int .i64 part, .slice A2 n2 c2]] W (K W)) := HC
  show Calls Try.prog 66 #[.agg #[.string (str code), .slice A1 n1 c1, .int .i64 tick, .int .i64 low, .int .i64 high, .int .i64 wide, .int .i64 rule, .int .i64 top, .int .i64 least, .int .i64 part, .slice A2 n2 c2], .int .i64 near, .int .i64 far] w _
  obtain ⟨W0, eW0⟩ : ∃ W0, w.alloc (.cells #[.string (str code), .slice A1 n1 c1, .int .i64 tick, .int .i64 low, .int .i64 high, .int .i64 wide, .int .i64 rule, .int .i64 top, .int .i64 least, .int .i64 part, .slice A2 n2 c2] 25) = W0 := ⟨_, rfl⟩
  obtain ⟨pb, epb⟩ : ∃ pb, w.heap.size = pb := ⟨_, rfl⟩
  have hblk0 : W0.heap[pb]? = some (.cells #[.string (str code), .slice A1 n1 c1, .int .i64 tick, .int .i64 low, .int .i64 high, .int .i64 wide, .int .i64 rule, .int .i64 top, .int .i64 least, .int .i64 part, .slice A2 n2 c2] 25 (0, 0)) := by
    rw [← eW0, ← epb]; exact heap_alloc_new w _
  have hB0 : Below w.heap.size w W0 := by rw [← eW0]; exact (Below.refl _ w).alloc (Nat.le_refl _) _
  have hpb0 : pb < W0.heap.size := (Array.getElem?_eq_some_iff.1 hblk0).1
  have kk : ∀ W : World, W.heap[pb]? = some (.cells #[.string (str code), .slice A1 n1 c1, .int .i64 tick, .int .i64 low, .int .i64 high, .int .i64 wide, .int .i64 rule, .int .i64 top, .int .i64 least, .int .i64 part, .slice A2 n2 c2] 25 (0, 0)) → W.cell? ⟨pb, 0, none⟩ = some (.string (str code)) ∧ W.cell? ⟨pb, 1, none⟩ = some (.slice A1 n1 c1) ∧ W.cell? ⟨pb, 2, none⟩ = some (.int .i64 tick) ∧ W.cell? ⟨pb, 3, none⟩ = some (.int .i64 low) ∧ W.cell? ⟨pb, 4, none⟩ = some (.int .i64 high) ∧ W.cell? ⟨pb, 5, none⟩ = some (.int .i64 wide) ∧ W.cell? ⟨pb, 6, none⟩ = some (.int .i64 rule) ∧ W.cell? ⟨pb, 7, none⟩ = some (.int .i64 top) ∧ W.cell? ⟨pb, 8, none⟩ = some (.int .i64 least) ∧ W.cell? ⟨pb, 9, none⟩ = some (.int .i64 part) ∧ W.cell? ⟨pb, 10, none⟩ = some (.slice A2 n2 c2) := by
    intro W hb
    refine ⟨?_, ?_, ?_, ?_, ?_, ?_, ?_, ?_, ?_, ?_, ?_⟩ <;> (rw [Lib.cell_of_heap hb]; rfl)
  replace kk := Lib.hid kk
  replace eW0 := Lib.hid eW0
  replace epb := Lib.hid epb
  have a0 : (w.alloc (.cells #[.string (str code), .slice A1 n1 c1, .int .i64 tick, .int .i64 low, .int .i64 high, .int .i64 wide, .int .i64 rule, .int .i64 top, .int .i64 least, .int .i64 part, .slice A2 n2 c2] 25)).cell? ⟨w.heap.size, 0, none⟩ = some (.string (str code)) := by
    rw [eW0.out, epb.out]; exact (kk.out W0 hblk0).1
  have a1 : (w.alloc (.cells #[.string (str code), .slice A1 n1 c1, .int .i64 tick, .int .i64 low, .int .i64 high, .int .i64 wide, .int .i64 rule, .int .i64 top, .int .i64 least, .int .i64 part, .slice A2 n2 c2] 25)).cell? ⟨w.heap.size, 1, none⟩ = some (.slice A1 n1 c1) := by
    rw [eW0.out, epb.out]; exact (kk.out W0 hblk0).2.1
  have a2 : (w.alloc (.cells #[.string (str code), .slice A1 n1 c1, .int .i64 tick, .int .i64 low, .int .i64 high, .int .i64 wide, .int .i64 rule, .int .i64 top, .int .i64 least, .int .i64 part, .slice A2 n2 c2] 25)).cell? ⟨w.heap.size, 2, none⟩ = some (.int .i64 tick) := by
    rw [eW0.out, epb.out]; exact (kk.out W0 hblk0).2.2.1
  have a3 : (w.alloc (.cells #[.string (str code), .slice A1 n1 c1, .int .i64 tick, .int .i64 low, .int .i64 high, .int .i64 wide, .int .i64 rule, .int .i64 top, .int .i64 least, .int .i64 part, .slice A2 n2 c2] 25)).cell? ⟨w.heap.size, 3, none⟩ = some (.int .i64 low) := by
    rw [eW0.out, epb.out]; exact (kk.out W0 hblk0).2.2.2.1
  have a4 : (w.alloc (.cells #[.string (str code), .slice A1 n1 c1, .int .i64 tick, .int .i64 low, .int .i64 high, .int .i64 wide, .int .i64 rule, .int .i64 top, .int .i64 least, .int .i64 part, .slice A2 n2 c2] 25)).cell? ⟨w.heap.size, 4, none⟩ = some (.int .i64 high) := by
    rw [eW0.out, epb.out]; exact (kk.out W0 hblk0).2.2.2.2.1
  have a5 : (w.alloc (.cells #[.string (str code), .slice A1 n1 c1, .int .i64 tick, .int .i64 low, .int .i64 high, .int .i64 wide, .int .i64 rule, .int .i64 top, .int .i64 least, .int .i64 part, .slice A2 n2 c2] 25)).cell? ⟨w.heap.size, 5, none⟩ = some (.int .i64 wide) := by
    rw [eW0.out, epb.out]; exact (kk.out W0 hblk0).2.2.2.2.2.1
  have a6 : (w.alloc (.cells #[.string (str code), .slice A1 n1 c1, .int .i64 tick, .int .i64 low, .int .i64 high, .int .i64 wide, .int .i64 rule, .int .i64 top, .int .i64 least, .int .i64 part, .slice A2 n2 c2] 25)).cell? ⟨w.heap.size, 6, none⟩ = some (.int .i64 rule) := by
    rw [eW0.out, epb.out]; exact (kk.out W0 hblk0).2.2.2.2.2.2.1
  have a7 : (w.alloc (.cells #[.string (str code), .slice A1 n1 c1, .int .i64 tick, .int .i64 low, .int .i64 high, .int .i64 wide, .int .i64 rule, .int .i64 top, .int .i64 least, .int .i64 part, .slice A2 n2 c2] 25)).cell? ⟨w.heap.size, 7, none⟩ = some (.int .i64 top) := by
    rw [eW0.out, epb.out]; exact (kk.out W0 hblk0).2.2.2.2.2.2.2.1
  have a8 : (w.alloc (.cells #[.string (str code), .slice A1 n1 c1, .int .i64 tick, .int .i64 low, .int .i64 high, .int .i64 wide, .int .i64 rule, .int .i64 top, .int .i64 least, .int .i64 part, .slice A2 n2 c2] 25)).cell? ⟨w.heap.size, 8, none⟩ = some (.int .i64 least) := by
    rw [eW0.out, epb.out]; exact (kk.out W0 hblk0).2.2.2.2.2.2.2.2.1
  have a9 : (w.alloc (.cells #[.string (str code), .slice A1 n1 c1, .int .i64 tick, .int .i64 low, .int .i64 high, .int .i64 wide, .int .i64 rule, .int .i64 top, .int .i64 least, .int .i64 part, .slice A2 n2 c2] 25)).cell? ⟨w.heap.size, 9, none⟩ = some (.int .i64 part) := by
    rw [eW0.out, epb.out]; exact (kk.out W0 hblk0).2.2.2.2.2.2.2.2.2.1
  have a10 : (w.alloc (.cells #[.string (str code), .slice A1 n1 c1, .int .i64 tick, .int .i64 low, .int .i64 high, .int .i64 wide, .int .i64 rule, .int .i64 top, .int .i64 least, .int .i64 part, .slice A2 n2 c2] 25)).cell? ⟨w.heap.size, 10, none⟩ = some (.slice A2 n2 c2) := by
    rw [eW0.out, epb.out]; exact (kk.out W0 hblk0).2.2.2.2.2.2.2.2.2.2
  go_enter Try.func66, Try.ntmps66
  go_wp2_with fail
  have hs0 : W0.heap.size = pb + 1 := by rw [← eW0.out, World.size_alloc, epb.out]
  rw [eW0.out]
  rw [epb.out]
  clear a0 a1 a2 a3 a4 a5 a6 a7 a8 a9 a10 eW0
  obtain ⟨k0, k1, k2, k3, k4, k5, k6, k7, k8, k9, k10⟩ := kk.out W0 hblk0
  obtain ⟨W1, eW1⟩ : ∃ W, W0.alloc (.cells #[.int .i64 near, .int .i64 far] 77) = W := ⟨_, rfl⟩
  rw [eW1]
  have hq1 : W1.heap[pb + 1]? = some (.cells #[.int .i64 near, .int .i64 far] 77 (0, 0)) := by rw [← eW1, ← hs0]; exact heap_alloc_new W0 _
  have hblk1 : W1.heap[pb]? = some (.cells #[.string (str code), .slice A1 n1 c1, .int .i64 tick, .int .i64 low, .int .i64 high, .int .i64 wide, .int .i64 rule, .int .i64 top, .int .i64 least, .int .i64 part, .slice A2 n2 c2] 25 (0, 0)) := by rw [← eW1]; exact (heap_alloc_old _ _ hpb0).trans hblk0
  have hB1 : Below w.heap.size w W1 := by rw [← eW1]; exact hB0.alloc hB0.size _
  have hpb1 : pb < W1.heap.size := (Array.getElem?_eq_some_iff.1 hblk1).1
  have hqb1 : pb + 1 < W1.heap.size := (Array.getElem?_eq_some_iff.1 hq1).1
  have hpl : w.heap.size ≤ pb := by rw [epb.out]; exact Nat.le_refl _
  clear eW1 k0 k1 k2 k3 k4 k5 k6 k7 k8 k9 k10 hblk0 hpb0 hB0
  refine (HC.out W1 hB1).mono ?_
  intro e w2 hkk
  obtain ⟨⟨A, c, rfl, hc1, hc2, hPr⟩, b2⟩ := hK2.out _ _ _ hkk
  have hq2 := Lib.hid (show w2.heap[pb + 1]? = _ from (b2.block (pb + 1) hqb1).trans hq1)
  have HB2 := Lib.hid (hB1.trans (b2.mono hB1.size))
  replace hPr := Lib.hid hPr
  clear hkk hK2 HC b2 hB1 hq1 hblk1 hs0 hpb1 hqb1
  go_wp2_with fail
  go_loopw [17] (fun kv wr => ∃ a : Nat, kv = .int .i64 a ∧ a ≤ c0 ∧ Hid (F (c0 - max a n1) (max a n1) = (x, y)) ∧ Hid (Below w.heap.size w wr) ∧ Hid (Pairs wr A c0 I J) ∧ Hid (wr.heap[pb + 1]? = some (.cells #[.int .i64 near, .int .i64 far] 77 (0, 0)))) (fun k _ => c0 - (intOf k).toNat)
  case atStart => exact ⟨0, rfl, by omega, Lib.hid (by rw [Nat.zero_max]; exact g1.out), HB2, hPr, hq2⟩
  case round =>
    clear hPr HB2 hq2 g1
    obtain ⟨a, rfl, ha, rc, HB, hPr, hq⟩ := hrel
    by_cases hlt : a < c0
    · have e1 : decide ((a : Int) < (c0 : Int)) = true := decide_eq_true (by omega)
      have e2 : (a : Int) < (c0 : Int) := by omega
      obtain ⟨b, rfl, u0, u1⟩ := hPr.out a hlt
      have hka := hk.out a hlt
      have hst : ¬ (I a = near ∧ J a = far ∧ n1 ≤ a) → F (c0 - max (a + 1) n1) (max (a + 1) n1) = (x, y) := fun g => by
        have rc := rc.out
        by_cases g1 : a < n1
        · rw [show max (a + 1) n1 = max a n1 from by omega]; exact rc
        · rw [show max a n1 = a from by omega, show c0 - a = (c0 - (a + 1)) + 1 from by omega, hFs.out, if_neg (fun h => g ⟨h.1, h.2, by omega⟩)] at rc
          rw [show max (a + 1) n1 = a + 1 from by omega]; exact rc
      have hyes : (I a = near ∧ J a = far) → n1 ≤ a → ((a : Int), true) = (x, y) := fun g g1 => by
        have rc := rc.out
        rw [show max a n1 = a from by omega, show c0 - a = (c0 - (a + 1)) + 1 from by omega, hFs.out, if_pos g] at rc
        exact rc
      obtain ⟨ia, eia⟩ : ∃ v, I a = v := ⟨_, rfl⟩
      obtain ⟨ja, eja⟩ : ∃ v, J a = v := ⟨_, rfl⟩
      rw [eia] at u0 hst hyes hka
      rw [eja] at u1 hst hyes hka
      replace hst := Lib.hid hst
      replace hyes := Lib.hid hyes
      replace hka := Lib.hid hka
      have hal := Lib.hid ((HB.out).alloc (HB.out).size (.cells #[.int .i64 ia, .int .i64 ja] 77))
      have hqx := Lib.hid ((heap_alloc_old wr (.cells #[.int .i64 ia, .int .i64 ja] 77) (Array.getElem?_eq_some_iff.1 hq.out).1).trans hq.out)
      have hPx := Lib.hid (hPr.out.below ((Below.refl _ wr).alloc (Nat.le_refl _) (.cells #[.int .i64 ia, .int .i64 ja] 77)))
      obtain ⟨s0, s1, z0, z1, -, -⟩ := pair_facts hqx.out
      clear eia eja rc HB hPr hq
      by_cases c1 : ia = near
      · subst c1
        by_cases c2 : ja = far
        · subst c2
          have g1 : (ia == ia) = true := by simp
          have g2 : (ja == ja) = true := by simp
          obtain ⟨W5, eW5⟩ : ∃ W, wr.alloc (.cells #[.int .i64 ia, .int .i64 ja] 77) = W := ⟨_, rfl⟩
          rw [eW5] at hal hqx hPx
          replace eW5 := Lib.hid eW5
          have HP := PSpread_any ia ja W5
          go_wp2_with fail
          rw [eW5.out]
          clear s0 s1 z0 z1 u0 u1 eW5
          by_cases c3 : a < n1
          · rw [show (ia != ja) = false from by simp; exact hka.out.1 c3] at HP
            refine HP.mono ?_
            rintro e w5 ⟨rfl, b5⟩
            clear HP
            have HB6 := Lib.hid (hal.out.trans (b5.mono hal.out.size))
            have hP6 := Lib.hid (hPx.out.below b5)
            have hq6 := Lib.hid ((b5.block _ (Array.getElem?_eq_some_iff.1 hqx.out).1).trans hqx.out)
            have nx := Lib.hid (hst.out (by omega))
            clear b5 hal hqx hPx hst hyes hka
            go_wp2_with fail
            go_roundw
            case rel => exact ⟨a + 1, by go_num, by omega, nx, HB6, hP6, hq6⟩
            case measure => simp [intOf]; omega
          · rw [show (ia != ja) = true from by simp; exact hka.out.2 (by omega)] at HP
            refine HP.mono ?_
            rintro e w5 ⟨rfl, b5⟩
            clear HP
            have HB6 := Lib.hid (hal.out.trans (b5.mono hal.out.size))
            have RC := Lib.hid (hyes.out (by simp) (by omega))
            clear b5 hal hqx hPx hst hyes hka
            go_wp2_with fail
            go_ret2
            exact ⟨by injection RC.out with a b; rw [← a, ← b]; rfl, HB6.out⟩
        · have g1 : (ia == ia) = true := by simp
          have g2 : (ja == far) = false := by simp; exact c2
          have nx := Lib.hid (hst.out (fun h => c2 h.2.1))
          clear hst hyes hka
          go_wp2_with fail
          go_roundw
          case rel => exact ⟨a + 1, by go_num, by omega, nx, hal, hPx, hqx⟩
          case measure => simp [intOf]; omega
      · have g1 : (ia == near) = false := by simp; exact c1
        have nx := Lib.hid (hst.out (fun h => c1 h.1))
        clear hst hyes hka
        go_wp2_with fail
        go_roundw
        case rel => exact ⟨a + 1, by go_num, by omega, nx, hal, hPx, hqx⟩
        case measure => simp [intOf]; omega
    · have e1 : decide ((a : Int) < (c0 : Int)) = false := decide_eq_false (by omega)
      have RC := rc.out
      rw [show c0 - max a n1 = 0 from by omega, hF0.out] at RC
      replace RC := Lib.hid RC
      clear rc
      go_wp2_with fail
      go_ret2
      exact ⟨by injection RC.out with a b; rw [← a, ← b]; rfl, HB.out⟩
end Go.Proofs.Ytdeofifidjbolaa
namespace Go.Proofs.Ytdeofifidjbolaa
open Go.RowKit
theorem pick_bd (x : Int) : -9223372036854775808 ≤ pick x ∧ pick x ≤ 9223372036854775807 := by
  unfold pick
  cases h : fitB x
  · show (-9223372036854775808 : Int) ≤ 0 ∧ (0 : Int) ≤ 9223372036854775807
    omega
  · exact (fitB_iff x).1 h
theorem ret1 {k : IntKind} {a b : Int} (h : a = b) : Ending.returned (.int k a) = .returned (.int k b) := by rw [h]
/-- The upper half of a number, as 128 bits have it. -/
def sgn (a : Int) : Int := if a < 0 then 18446744073709551615 else 0
theorem size_neg {a : Int} (a1 : -9223372036854775808 ≤ a) (h : a < 0) : IntKind.u64.wrap (-IntKind.u64.wrap a) = a.natAbs := by
  rw [IntKind.wrap_u64, IntKind.wrap_u64]; omega
theorem below_eq {a : Int} (a1 : 0 ≤ a) (h : a ≤ 9223372036854775808) : wrap64 (IntKind.u64.wrap (-a)) = -a := by
  rw [IntKind.wrap_u64]; unfold wrap64; omega
theorem sgn_eq {a : Int} (a1 : -9223372036854775808 ≤ a) (a2 : a ≤ 9223372036854775807) : IntKind.u64.wrap (a / 9223372036854775808) = sgn a := by
  rw [IntKind.wrap_u64]; unfold sgn; split <;> omega
theorem tmod_neg {a b : Int} (hr : a % b = 0) : a.tmod b = 0 := Int.tmod_eq_zero_of_dvd (Int.dvd_of_emod_eq_zero hr)
theorem tmod_neg' {a b : Int} (ha : a < 0) (hb : 1 ≤ b) (hr : a % b ≠ 0) : a.tmod b = a % b - b := by
  rw [Int.tmod_eq_emod]
  have hd : ¬ b ∣ a := fun h => hr (Int.emod_eq_zero_of_dvd h)
  rw [if_neg (by simp [hd]; omega)]
  omega
end Go.Proofs.Ytdeofifidjbolaa
namespace Go.Proofs.Ytdeofifidjbolaa
open Go.RowKit
set_option linter.unusedVariables false

set_option maxHeartbeats 400000 in
theorem Add_any (a b : Int) (w : World) (a1 : -9223372036854775808 ≤ a) (a2 : a ≤ 9223372036854775807) (b1 : -9223372036854775808 ≤ b) (b2 : b ≤ 9223372036854775807) :
    Calls Try.prog 68 #[.int .i64 a, .int .i64 b] w fun e w' => e = .returned (.tuple #[.int .i64 (pick (a + b)), .bool (fitB (a + b))]) ∧ w = w' := by
  by_cases h : -9223372036854775808 ≤ a + b ∧ a + b ≤ 9223372036854775807
  · obtain ⟨h1, h2⟩ := h
    have fin := ret2_yes (fitB_yes h1 h2)
    have Fin := Lib.hid fin
    clear fin
    by_cases ha : a < 0 <;> by_cases hb : b < 0 <;> by_cases hs : a + b < 0
    all_goals first | omega | skip
    all_goals
      go_enter Try.func68, Try.ntmps68
      go_wp2
      go_ret2
      exact ⟨Fin.out, rfl⟩
  · have fin := ret2_no (fitB_no h)
    have Fin := Lib.hid fin
    clear fin
    by_cases ha : a < 0
    · have hb : b < 0 := by omega
      have hw := wrap_lo (x := a + b) (by omega) (by omega)
      clear h
      go_enter Try.func68, Try.ntmps68
      go_wp2
      go_ret2
      exact ⟨Fin.out, rfl⟩
    · have hb : ¬ b < 0 := by omega
      have hw := wrap_hi (x := a + b) (by omega) (by omega)
      clear h
      go_enter Try.func68, Try.ntmps68
      go_wp2
      go_ret2
      exact ⟨Fin.out, rfl⟩

set_option maxHeartbeats 400000 in
theorem RefAdd_any (a b : Int) (w : World) (a1 : -9223372036854775808 ≤ a) (a2 : a ≤ 9223372036854775807) (b1 : -9223372036854775808 ≤ b) (b2 : b ≤ 9223372036854775807) :
    Calls Try.prog 64 #[.int .i64 a, .int .i64 b] w fun e w' => e = .returned (.tuple #[.int .i64 (pick (a + b)), .bool (fitB (a + b))]) ∧ w = w' := by
  by_cases h : -9223372036854775808 ≤ a + b ∧ a + b ≤ 9223372036854775807
  · obtain ⟨h1, h2⟩ := h
    have fin := ret2_yes (fitB_yes h1 h2)
    have Fin := Lib.hid fin
    clear fin
    by_cases hb : b < 0
    · go_enter Try.func64, Try.ntmps64
      go_wp2
      go_ret2
      exact ⟨Fin.out, rfl⟩
    by_cases hb : 0 < b
    all_goals
      go_enter Try.func64, Try.ntmps64
      go_wp2
      go_ret2
      exact ⟨Fin.out, rfl⟩
  · have fin := ret2_no (fitB_no h)
    have Fin := Lib.hid fin
    clear fin
    by_cases hb : b < 0
    · have hx : a < -9223372036854775808 - b := by omega
      clear h
      go_enter Try.func64, Try.ntmps64
      go_wp2
      go_ret2
      exact ⟨Fin.out, rfl⟩
    · have hb : 0 < b := by omega
      have hx : 9223372036854775807 - b < a := by omega
      clear h
      go_enter Try.func64, Try.ntmps64
      go_wp2
      go_ret2
      exact ⟨Fin.out, rfl⟩

set_option maxHeartbeats 400000 in
theorem RefSub_any (a b : Int) (w : World) (a1 : -9223372036854775808 ≤ a) (a2 : a ≤ 9223372036854775807) (b1 : -9223372036854775808 ≤ b) (b2 : b ≤ 9223372036854775807) :
    Calls Try.prog 65 #[.int .i64 a, .int .i64 b] w fun e w' => e = .returned (.tuple #[.int .i64 (pick (a - b)), .bool (fitB (a - b))]) ∧ w = w' := by
  by_cases h : -9223372036854775808 ≤ a - b ∧ a - b ≤ 9223372036854775807
  · obtain ⟨h1, h2⟩ := h
    have fin := ret2_yes (fitB_yes h1 h2)
    have Fin := Lib.hid fin
    clear fin
    by_cases hb : b < 0
    · go_enter Try.func65, Try.ntmps65
      go_wp2
      go_ret2
      exact ⟨Fin.out, rfl⟩
    by_cases hb : 0 < b
    all_goals
      go_enter Try.func65, Try.ntmps65
      go_wp2
      go_ret2
      exact ⟨Fin.out, rfl⟩
  · have fin := ret2_no (fitB_no h)
    have Fin := Lib.hid fin
    clear fin
    by_cases hb : b < 0
    · have hx : 9223372036854775807 + b < a := by omega
      clear h
      go_enter Try.func65, Try.ntmps65
      go_wp2
      go_ret2
      exact ⟨Fin.out, rfl⟩
    · have hb : 0 < b := by omega
      have hx : a < -9223372036854775808 + b := by omega
      clear h
      go_enter Try.func65, Try.ntmps65
      go_wp2
      go_ret2
      exact ⟨Fin.out, rfl⟩
end Go.Proofs.Ytdeofifidjbolaa
