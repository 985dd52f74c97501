/-
  Of the program's shares in two parts: usedUp, left.
-/
import Derived.Test.YtabogoonbapjiaaPr
import Derived.Test.YtabogoonbapjiaaFiShare
namespace Go.Proofs.Ytabogoonbapjiaa
open Go.RowKit
set_option linter.unusedVariables false
set_option linter.unusedSimpArgs false

theorem drew_two (w : World) (a b : Nat) : (w.drewN a).drewN b = w.drewN (a + b) := by simp
/-- How many lack nothing: up to the first that does. -/
def UpTo (n : Nat) (xs bs : List Int) (w : World) (e : Ending) (w' : World) : Prop := ∃ c d : Nat, e = .returned (.int .i64 (c : Int)) ∧ c ≤ n ∧ (∀ j, j < c → bs.getD j 0 = xs.getD j 0) ∧ (c < n → bs.getD c 0 ≠ xs.getD c 0) ∧ w' = w.drewN d

set_option maxRecDepth 100000 in
set_option maxHeartbeats 1600000 in
theorem UsedUp_any (A : Option Addr) (n cap : Nat) (xs : List Int) (B : Option Addr) (cb : Nat) (bs : List Int) (w : World) (hn : n ≤ 250) (h : Hid (Holds w A n xs)) (hb : Hid (Holds w B n bs)) :
    Calls Try.prog 30 #[.slice A n cap, .slice B n cb] w (UpTo n xs bs w) := by
  go_enter Try.func30, Try.ntmps30
  go_wp2_with fail
  go_loopw [5] (fun i wr => ∃ k : Nat, i = .int .i64 k ∧ k ≤ n ∧ Hid (∀ j, j < k → bs.getD j 0 = xs.getD j 0) ∧ ∃ q, wr = w.drewN q) (fun i _ => (n - intOf i).toNat)
  case atStart => exact ⟨0, rfl, by omega, Lib.hid (fun j hj => absurd hj (by omega)), 0, rfl⟩
  case round =>
    obtain ⟨k, rfl, hk, hE, q, rfl⟩ := hrel
    by_cases hlt : k < n
    · have d1 : decide ((k : Int) < (n : Int)) = true := decide_eq_true (by omega)
      have d1' : decide (k < n) = true := decide_eq_true hlt
      have d3 : (k : Int) < (n : Int) := by omega
      obtain ⟨ba, oa, rfl, ha⟩ := h.out.2.2 (by omega)
      obtain ⟨bb, ob, rfl, hbb⟩ := hb.out.2.2 (by omega)
      have c0 := ha k hlt
      have c1 := hbb k hlt
      clear ha hbb
      obtain ⟨x, hx⟩ : ∃ x, xs.getD k 0 = x := ⟨_, rfl⟩
      obtain ⟨y, hy⟩ : ∃ y, bs.getD k 0 = y := ⟨_, rfl⟩
      rw [hx] at c0
      rw [hy] at c1
      replace hx := Lib.hid hx
      replace hy := Lib.hid hy
      by_cases hxy : y = x
      · have hnew := Lib.hid (fun j (hj : j < k + 1) => show bs.getD j 0 = xs.getD j 0 by
          rcases (show j < k ∨ j = k by omega) with hjk | hjk
          · exact hE.out j hjk
          · rw [hjk, hx.out, hy.out, hxy])
        subst hxy
        have hne : (y == y) = true := by simp
        go_wp2_with fail
        go_quiet (fail)
        go_wp2_with fail
        go_roundw
        case rel => exact ⟨k + 1, by go_num, by omega, hnew, _, rfl⟩
        case measure => simp [intOf]; omega
      · have hne : (y == x) = false := by simp [hxy]
        replace hxy := Lib.hid hxy
        go_wp2_with fail
        go_quiet (fail)
        go_wp2_with fail
        go_ret
        exact ⟨k, _, rfl, hk, hE.out, fun _ => by rw [hx.out, hy.out]; exact hxy.out, drew_two _ _ _⟩
    · obtain rfl : k = n := by omega
      have d1 : decide ((k : Int) < (k : Int)) = false := by simp
      have d1' : decide (k < k) = false := by simp
      go_wp2_with fail
      go_quiet (fail)
      go_wp2_with fail
      go_ret
      exact ⟨k, _, rfl, hk, hE.out, fun hh => absurd hh (by omega), drew_two _ _ _⟩

set_option maxRecDepth 100000 in
set_option maxHeartbeats 1600000 in
theorem SLeft_any (A : Option Addr) (n cap : Nat) (xs : List Int) (B : Option Addr) (cb : Nat) (bs : List Int) (w : World) (hn : n ≤ 250) (h : Hid (Holds w A n xs)) (hb : Hid (Holds w B n bs)) (hx : Hid (∀ k, k < n → 0 ≤ bs.getD k 0 ∧ bs.getD k 0 ≤ xs.getD k 0 ∧ xs.getD k 0 ≤ 1000000)) :
    Calls Try.prog 31 #[.slice A n cap, .slice B n cb] w (Gave w (subZ xs bs)) := by
  have hlen := h.out.1
  have hlb := hb.out.1
  have hll : xs.length = bs.length := by omega
  have hsl : (subZ xs bs).length = n := by rw [subZ_len hll]; exact hlen
  have hget : ∀ k, k < n → (subZ xs bs).getD k 0 = xs.getD k 0 - bs.getD k 0 := fun k hk => subZ_get hll (by omega)
  obtain ⟨F, hF⟩ : ∃ F, subZ xs bs = F := ⟨_, rfl⟩
  rw [hF] at hsl ⊢
  simp only [hF] at hget
  replace hget := Lib.hid hget
  replace hF := Lib.hid hF
  obtain ⟨i0, hi0, hz0, hz1, hz2⟩ := info_parts info_num
  go_enter Try.func31, Try.ntmps31
  go_wp2_with (at_make; refine wpList_make_full _ (by rfl) (.tmp 9) (.tmp 9) 26 (by rfl) w.heap.size 2 i0 (.int .i64 0) 1 Try.underlying26 hi0 hz0 hz1 .i64 .i64 _ _ n (by rfl) (by rfl) rfl rfl (by rw [hz2]; omega) (by unfold maxLen; omega) (Nat.le_refl _) ?_)
  intro w2 r2 g2
  have R2 := Lib.hid (row_made r2)
  have B2 : Hid (Below w.heap.size w w2) := Lib.hid ((Below.refl _ w).grown g2 (Nat.le_refl _) (fun k e => by cases e))
  obtain ⟨g, hg⟩ : ∃ g, w.heap.size = g := ⟨_, rfl⟩
  have hAg : Hid (∀ ad, A = some ad → 0 < n → ad.block < g) := Lib.hid (fun ad e h0 => by
    obtain ⟨b, off, e2, hc⟩ := h.out.2.2 h0
    rw [e] at e2
    injection e2 with e2
    subst e2
    rw [← hg]
    exact World.block_lt_of_cell? w _ (hc 0 h0))
  have hBg : Hid (∀ ad, B = some ad → 0 < n → ad.block < g) := Lib.hid (fun ad e h0 => by
    obtain ⟨b, off, e2, hc⟩ := hb.out.2.2 h0
    rw [e] at e2
    injection e2 with e2
    subst e2
    rw [← hg]
    exact World.block_lt_of_cell? w _ (hc 0 h0))
  rw [hg] at R2 B2
  replace hg := Lib.hid hg
  clear r2 g2
  go_wp2_with fail
  rw [hg.out]
  go_loopw [13] (fun i wr => ∃ (k : Nat), i = .int .i64 k ∧ k ≤ n ∧ Hid (Row wr g (.slice (some ⟨g, 0, none⟩) n n) (curL F n k)) ∧ Hid (Below g w wr)) (fun i _ => n - (intOf i).toNat)
  case atStart => exact ⟨0, rfl, by omega, by rw [cur_zero]; exact R2, B2⟩
  case round =>
    obtain ⟨k, rfl, hk, hR, hB⟩ := hrel
    by_cases hlt : k < n
    · have hcl := cur_len hsl hk
      have hnx := cur_set hsl hlt
      have hg0 := hget.out k hlt
      obtain ⟨g', cap', e', -, hgw, hcc, hcm, hfz, hcl2⟩ := hR.out.open' (by omega)
      rw [hcl] at e' hcl2
      injection e' with e1 e2 e3
      injection e1 with e1
      injection e1 with e1
      subst e1; subst e3
      have hfk := hfz k
      have hck := hcl2 k hlt
      have HW := h.out.below (hg.out ▸ hB.out)
      have HV := hb.out.below (hg.out ▸ hB.out)
      obtain ⟨b, off, rfl, hc⟩ := HW.2.2 (by omega)
      obtain ⟨b2, off2, rfl, hc2⟩ := HV.2.2 (by omega)
      have hcell := hc k hlt
      have hcell2 := hc2 k hlt
      have hne := hAg.out _ rfl (by omega)
      have hne2 := hBg.out _ rfl (by omega)
      obtain ⟨x1, x2, x3⟩ := hx.out k hlt
      clear hc hc2 HW HV hfz hcl2
      generalize xs.getD k 0 = x at *
      generalize bs.getD k 0 = y at *
      rw [hg0] at hnx
      have hRs := hR.out.set (k := k) (by omega) (x - y)
      rw [hnx] at hRs
      replace hRs := Lib.hid hRs
      have d1 : decide ((k : Int) < (n : Int)) = true := decide_eq_true (by omega)
      have d1' : (k : Int) < (n : Int) := by omega
      have hBs : Below g w (wr.setCell ⟨g, k, none⟩ (.int .i64 (x - y))) := hB.out.trans ((set_only wr g k (.int .i64 (x - y))).below (by omega) (fun j hj e => by omega))
      replace hBs := Lib.hid hBs
      replace hnx := Lib.hid hnx
      replace hg0 := Lib.hid hg0
      have w1' : wrap64 (x - y) = x - y := IntWalk.wrap64_in _ ⟨by omega, by omega⟩
      go_wp2_with fail
      go_roundw
      case rel => exact ⟨k + 1, by go_num, by omega, hRs, hBs⟩
      case measure => simp [intOf]; omega
    · obtain rfl : k = n := by omega
      have d1 : decide ((k : Int) < (k : Int)) = false := by simp
      rw [cur_full hsl] at hR
      go_wp2_with fail
      go_ret
      exact ⟨_, rfl, by rw [hg.out]; exact hR.out, by rw [hg.out]; exact hB.out⟩
end Go.Proofs.Ytabogoonbapjiaa
