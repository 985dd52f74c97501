/-
  The law's own comparison: a quote with itself, a list with itself.
-/
import Derived.Test.YtdeofifidjbolaaImBest
import Derived.Deep.RegionHeld3
import Derived.Deep.Cut
namespace Go.Proofs.Ytdeofifidjbolaa
open Go.RowKit
set_option linter.unusedVariables false
set_option linter.unusedSimpArgs false

set_option maxRecDepth 100000 in
set_option maxHeartbeats 3200000 in
theorem Quote_yes (xp xn xi xs xj xt : Int) (w : World) :
    Calls Try.prog 30 #[.agg #[.int .i64 xp, .int .i64 xn, .int .i64 xi, .int .i64 xs, .int .i64 xj, .int .i64 xt], .agg #[.int .i64 xp, .int .i64 xn, .int .i64 xi, .int .i64 xs, .int .i64 xj, .int .i64 xt]] w fun e w' => e = .returned (.bool true) ∧ Below w.heap.size w w' := by
  obtain ⟨W0, e0⟩ : ∃ W, w.alloc (.cells #[.int .i64 xp, .int .i64 xn, .int .i64 xi, .int .i64 xs, .int .i64 xj, .int .i64 xt] 37) = W := ⟨_, rfl⟩
  obtain ⟨W1, e1⟩ : ∃ W, W0.alloc (.cells #[.int .i64 xp, .int .i64 xn, .int .i64 xi, .int .i64 xs, .int .i64 xj, .int .i64 xt] 64) = W := ⟨_, rfl⟩
  obtain ⟨g, eg⟩ : ∃ g, w.heap.size = g := ⟨_, rfl⟩
  have s0 : W0.heap.size = g + 1 := by rw [← e0, World.size_alloc, eg]
  have h1 : W1.heap[g + 1]? = some (.cells #[.int .i64 xp, .int .i64 xn, .int .i64 xi, .int .i64 xs, .int .i64 xj, .int .i64 xt] 64 (0, 0)) := by rw [← e1, ← s0]; exact heap_alloc_new W0 _
  have h0 : W1.heap[g]? = some (.cells #[.int .i64 xp, .int .i64 xn, .int .i64 xi, .int .i64 xs, .int .i64 xj, .int .i64 xt] 37 (0, 0)) := by rw [← e1]; exact (heap_alloc_old _ _ (by omega)).trans (by rw [← e0, ← eg]; exact heap_alloc_new w _)
  have b1 : Hid (Below w.heap.size w W1) := Lib.hid (by rw [← e1, ← e0]; exact ((Below.refl _ w).alloc (Nat.le_refl _) _).alloc (by simp) _)
  obtain ⟨a0, a1, a2, a3, a4, a5⟩ := row6 h0
  obtain ⟨c0, c1, c2, c3, c4, c5⟩ := row6 h1
  replace e0 := Lib.hid e0
  replace e1 := Lib.hid e1
  replace eg := Lib.hid eg
  clear h0 h1 s0
  go_enter Try.func30, Try.ntmps30
  go_upto_region 1 with (fail)
  rw [e0.out, e1.out, eg.out]
  go_wp2_with fail
  go_ret
  exact ⟨rfl, b1.out⟩
set_option maxRecDepth 100000 in
set_option maxHeartbeats 3200000 in
theorem Same14_yes (A B : Option Addr) (n ca cb : Nat) (L : List Qt) (w : World) (hn : n ≤ 9223372036854775807) (hA : Hid (HV fQt w A n L)) (hB0 : Hid (HV fQt w B n L)) :
    Calls Try.prog 29 #[.slice A n ca, .slice B n cb] w fun e w' => e = .returned (.bool true) ∧ Below w.heap.size w w' := by
  have dn : ((n : Int) != (n : Int)) = false := by simp
  have hln := hA.out.1
  have hex : Hid (∀ k, k < n → ∃ y, L[k]? = some y) := Lib.hid (fun k hk => ⟨_, List.getElem?_eq_getElem (by omega)⟩)
  have bw0 := Lib.hid (Below.refl w.heap.size w)
  clear hln
  go_enter Try.func29, Try.ntmps29
  go_wp2_with fail
  go_loopw [5] (fun i wr => ∃ k : Nat, i = .int .i64 k ∧ k ≤ n ∧ Hid (Below w.heap.size w wr)) (fun i _ => n - (intOf i).toNat)
  case atStart => exact ⟨0, rfl, by omega, bw0⟩
  case round =>
    clear bw0
    obtain ⟨k, rfl, hk, hB⟩ := hrel
    by_cases hlt : k < n
    · have d1 : decide ((k : Int) < (n : Int)) = true := decide_eq_true (by omega)
      have d3 : (k : Int) < (n : Int) := by omega
      have hk1 : k + 1 ≤ n := by omega
      obtain ⟨y, hy⟩ := hex.out k hlt
      obtain ⟨b, off, rfl, y0, y1, y2, y3, y4, y5⟩ := (hA.out.below hB.out).atQ hy
      obtain ⟨b2, off2, rfl, u0, u1, u2, u3, u4, u5⟩ := (hB0.out.below hB.out).atQ hy
      obtain ⟨xp, xn, xi, xs, xj, xt⟩ := y
      simp only at y0 y1 y2 y3 y4 y5 u0 u1 u2 u3 u4 u5
      replace hy := Lib.hid hy
      have hSof : Hid (∀ W W' : World, (fun W : World => W.cell? ⟨b, off + k * 6, none⟩ = some (.int .i64 xp) ∧ W.cell? ⟨b, off + k * 6 + 1, none⟩ = some (.int .i64 xn) ∧ W.cell? ⟨b, off + k * 6 + 2, none⟩ = some (.int .i64 xi) ∧ W.cell? ⟨b, off + k * 6 + 3, none⟩ = some (.int .i64 xs) ∧ W.cell? ⟨b, off + k * 6 + 4, none⟩ = some (.int .i64 xj) ∧ W.cell? ⟨b, off + k * 6 + 5, none⟩ = some (.int .i64 xt) ∧ W.cell? ⟨b2, off2 + k * 6, none⟩ = some (.int .i64 xp) ∧ W.cell? ⟨b2, off2 + k * 6 + 1, none⟩ = some (.int .i64 xn) ∧ W.cell? ⟨b2, off2 + k * 6 + 2, none⟩ = some (.int .i64 xi) ∧ W.cell? ⟨b2, off2 + k * 6 + 3, none⟩ = some (.int .i64 xs) ∧ W.cell? ⟨b2, off2 + k * 6 + 4, none⟩ = some (.int .i64 xj) ∧ W.cell? ⟨b2, off2 + k * 6 + 5, none⟩ = some (.int .i64 xt) ∧ Below wr.heap.size wr W) W → Below W.heap.size W W' → (fun W : World => W.cell? ⟨b, off + k * 6, none⟩ = some (.int .i64 xp) ∧ W.cell? ⟨b, off + k * 6 + 1, none⟩ = some (.int .i64 xn) ∧ W.cell? ⟨b, off + k * 6 + 2, none⟩ = some (.int .i64 xi) ∧ W.cell? ⟨b, off + k * 6 + 3, none⟩ = some (.int .i64 xs) ∧ W.cell? ⟨b, off + k * 6 + 4, none⟩ = some (.int .i64 xj) ∧ W.cell? ⟨b, off + k * 6 + 5, none⟩ = some (.int .i64 xt) ∧ W.cell? ⟨b2, off2 + k * 6, none⟩ = some (.int .i64 xp) ∧ W.cell? ⟨b2, off2 + k * 6 + 1, none⟩ = some (.int .i64 xn) ∧ W.cell? ⟨b2, off2 + k * 6 + 2, none⟩ = some (.int .i64 xi) ∧ W.cell? ⟨b2, off2 + k * 6 + 3, none⟩ = some (.int .i64 xs) ∧ W.cell? ⟨b2, off2 + k * 6 + 4, none⟩ = some (.int .i64 xj) ∧ W.cell? ⟨b2, off2 + k * 6 + 5, none⟩ = some (.int .i64 xt) ∧ Below wr.heap.size wr W) W') := Lib.hid (fun W W' hs bb => ⟨(bb.cell (World.block_lt_of_cell? W _ hs.1)).trans hs.1, (bb.cell (World.block_lt_of_cell? W _ hs.2.1)).trans hs.2.1, (bb.cell (World.block_lt_of_cell? W _ hs.2.2.1)).trans hs.2.2.1, (bb.cell (World.block_lt_of_cell? W _ hs.2.2.2.1)).trans hs.2.2.2.1, (bb.cell (World.block_lt_of_cell? W _ hs.2.2.2.2.1)).trans hs.2.2.2.2.1, (bb.cell (World.block_lt_of_cell? W _ hs.2.2.2.2.2.1)).trans hs.2.2.2.2.2.1, (bb.cell (World.block_lt_of_cell? W _ hs.2.2.2.2.2.2.1)).trans hs.2.2.2.2.2.2.1, (bb.cell (World.block_lt_of_cell? W _ hs.2.2.2.2.2.2.2.1)).trans hs.2.2.2.2.2.2.2.1, (bb.cell (World.block_lt_of_cell? W _ hs.2.2.2.2.2.2.2.2.1)).trans hs.2.2.2.2.2.2.2.2.1, (bb.cell (World.block_lt_of_cell? W _ hs.2.2.2.2.2.2.2.2.2.1)).trans hs.2.2.2.2.2.2.2.2.2.1, (bb.cell (World.block_lt_of_cell? W _ hs.2.2.2.2.2.2.2.2.2.2.1)).trans hs.2.2.2.2.2.2.2.2.2.2.1, (bb.cell (World.block_lt_of_cell? W _ hs.2.2.2.2.2.2.2.2.2.2.2.1)).trans hs.2.2.2.2.2.2.2.2.2.2.2.1, hs.2.2.2.2.2.2.2.2.2.2.2.2.trans (bb.mono hs.2.2.2.2.2.2.2.2.2.2.2.2.size)⟩)
      have z0 : (fun W : World => W.cell? ⟨b, off + k * 6, none⟩ = some (.int .i64 xp) ∧ W.cell? ⟨b, off + k * 6 + 1, none⟩ = some (.int .i64 xn) ∧ W.cell? ⟨b, off + k * 6 + 2, none⟩ = some (.int .i64 xi) ∧ W.cell? ⟨b, off + k * 6 + 3, none⟩ = some (.int .i64 xs) ∧ W.cell? ⟨b, off + k * 6 + 4, none⟩ = some (.int .i64 xj) ∧ W.cell? ⟨b, off + k * 6 + 5, none⟩ = some (.int .i64 xt) ∧ W.cell? ⟨b2, off2 + k * 6, none⟩ = some (.int .i64 xp) ∧ W.cell? ⟨b2, off2 + k * 6 + 1, none⟩ = some (.int .i64 xn) ∧ W.cell? ⟨b2, off2 + k * 6 + 2, none⟩ = some (.int .i64 xi) ∧ W.cell? ⟨b2, off2 + k * 6 + 3, none⟩ = some (.int .i64 xs) ∧ W.cell? ⟨b2, off2 + k * 6 + 4, none⟩ = some (.int .i64 xj) ∧ W.cell? ⟨b2, off2 + k * 6 + 5, none⟩ = some (.int .i64 xt) ∧ Below wr.heap.size wr W) wr.drew := ⟨y0, y1, y2, y3, y4, y5, u0, u1, u2, u3, u4, u5, (Below.refl _ wr).drew⟩
      clear y0 y1 y2 y3 y4 y5 u0 u1 u2 u3 u4 u5 hlt hk
      go_upto_region 6 with (fail)
      refine wp_region_held_drew (S := (fun W : World => W.cell? ⟨b, off + k * 6, none⟩ = some (.int .i64 xp) ∧ W.cell? ⟨b, off + k * 6 + 1, none⟩ = some (.int .i64 xn) ∧ W.cell? ⟨b, off + k * 6 + 2, none⟩ = some (.int .i64 xi) ∧ W.cell? ⟨b, off + k * 6 + 3, none⟩ = some (.int .i64 xs) ∧ W.cell? ⟨b, off + k * 6 + 4, none⟩ = some (.int .i64 xj) ∧ W.cell? ⟨b, off + k * 6 + 5, none⟩ = some (.int .i64 xt) ∧ W.cell? ⟨b2, off2 + k * 6, none⟩ = some (.int .i64 xp) ∧ W.cell? ⟨b2, off2 + k * 6 + 1, none⟩ = some (.int .i64 xn) ∧ W.cell? ⟨b2, off2 + k * 6 + 2, none⟩ = some (.int .i64 xi) ∧ W.cell? ⟨b2, off2 + k * 6 + 3, none⟩ = some (.int .i64 xs) ∧ W.cell? ⟨b2, off2 + k * 6 + 4, none⟩ = some (.int .i64 xj) ∧ W.cell? ⟨b2, off2 + k * 6 + 5, none⟩ = some (.int .i64 xt) ∧ Below wr.heap.size wr W)) (by kernel_rfl) z0 (fun hHeld => ?_)
      refine wpAnyH_take (i := 0) (v := (.slice (some ⟨b, off, none⟩) n ca)) rfl (by kernel_rfl) (by kernel_rfl) (by kernel_rfl) (fun _ _ _ h => h) (Or.inl ⟨by kernel_rfl, fun W hSw => ?_⟩) (by assumption) ?_
      · (try dsimp only at hSw)
        go_simp
      (try simp only [Act.put, List.setIfInBounds_toArray, List.set_cons_zero, List.set_cons_succ])
      refine wpAnyH_take (i := 1) (v := .int .i64 (k : Int)) rfl (by kernel_rfl) (by kernel_rfl) (by kernel_rfl) (fun _ _ _ h => h) (Or.inl ⟨by kernel_rfl, fun W hSw => ?_⟩) (by assumption) ?_
      · (try dsimp only at hSw)
        go_simp
      (try simp only [Act.put, List.setIfInBounds_toArray, List.set_cons_zero, List.set_cons_succ])
      refine wpAnyH_take (i := 2) (v := .pointer (some ⟨b, off + k * 6, none⟩)) rfl (by kernel_rfl) (by kernel_rfl) (by kernel_rfl) (fun _ _ _ h => h) (Or.inl ⟨by kernel_rfl, fun W hSw => ?_⟩) (by assumption) ?_
      · (try dsimp only at hSw)
        go_simp
      (try simp only [Act.put, List.setIfInBounds_toArray, List.set_cons_zero, List.set_cons_succ])
      refine wpAnyH_take (i := 3) (v := .agg #[.int .i64 xp, .int .i64 xn, .int .i64 xi, .int .i64 xs, .int .i64 xj, .int .i64 xt]) rfl (by kernel_rfl) (by kernel_rfl) (by kernel_rfl) (fun _ _ _ h => h) (Or.inl ⟨by kernel_rfl, fun W hSw => ?_⟩) (by assumption) ?_
      · (try dsimp only at hSw)
        go_simp
      (try simp only [Act.put, List.setIfInBounds_toArray, List.set_cons_zero, List.set_cons_succ])
      refine wpAnyH_take (i := 4) (v := (.slice (some ⟨b2, off2, none⟩) n cb)) rfl (by kernel_rfl) (by kernel_rfl) (by kernel_rfl) (fun _ _ _ h => h) (Or.inl ⟨by kernel_rfl, fun W hSw => ?_⟩) (by assumption) ?_
      · (try dsimp only at hSw)
        go_simp
      (try simp only [Act.put, List.setIfInBounds_toArray, List.set_cons_zero, List.set_cons_succ])
      refine wpAnyH_take (i := 5) (v := .int .i64 (k : Int)) rfl (by kernel_rfl) (by kernel_rfl) (by kernel_rfl) (fun _ _ _ h => h) (Or.inl ⟨by kernel_rfl, fun W hSw => ?_⟩) (by assumption) ?_
      · (try dsimp only at hSw)
        go_simp
      (try simp only [Act.put, List.setIfInBounds_toArray, List.set_cons_zero, List.set_cons_succ])
      refine wpAnyH_take (i := 6) (v := .pointer (some ⟨b2, off2 + k * 6, none⟩)) rfl (by kernel_rfl) (by kernel_rfl) (by kernel_rfl) (fun _ _ _ h => h) (Or.inl ⟨by kernel_rfl, fun W hSw => ?_⟩) (by assumption) ?_
      · (try dsimp only at hSw)
        go_simp
      (try simp only [Act.put, List.setIfInBounds_toArray, List.set_cons_zero, List.set_cons_succ])
      refine wpAnyH_take (i := 7) (v := .agg #[.int .i64 xp, .int .i64 xn, .int .i64 xi, .int .i64 xs, .int .i64 xj, .int .i64 xt]) rfl (by kernel_rfl) (by kernel_rfl) (by kernel_rfl) (fun _ _ _ h => h) (Or.inl ⟨by kernel_rfl, fun W hSw => ?_⟩) (by assumption) ?_
      · (try dsimp only at hSw)
        go_simp
      (try simp only [Act.put, List.setIfInBounds_toArray, List.set_cons_zero, List.set_cons_succ])
      refine wpAnyH_ready (rs := [8]) (by kernel_rfl) (by simp) ?_
      refine AllReadyH.cons rfl (fun K hK => ?_) AllReadyH.nil
      go_simp
      refine (Quote_yes xp xn xi xs xj xt wr.drew).mono ?_
      rintro e w5 ⟨rfl, b5⟩
      have z5 := hSof.out _ _ z0 b5
      go_wp2_with fail
      refine hK.out _ _ z5 (fun hHeld => ?_)
      clear hK K
      (try simp only [Act.put, List.setIfInBounds_toArray, List.set_cons_zero, List.set_cons_succ])
      refine wpAnyH_take (i := 9) (v := .bool false) rfl (by kernel_rfl) (by kernel_rfl) (by kernel_rfl) (fun _ _ _ h => h) (Or.inl ⟨by kernel_rfl, fun W hSw => ?_⟩) (by assumption) ?_
      · (try dsimp only at hSw)
        go_simp
      (try simp only [Act.put, List.setIfInBounds_toArray, List.set_cons_zero, List.set_cons_succ])
      refine wpAnyH_done (by kernel_rfl) ?_ _
      (try simp only [List.getElem_toArray, List.getElem_cons_succ, List.getElem_cons_zero, Act.put, List.setIfInBounds_toArray, List.set_cons_zero, List.set_cons_succ])
      have B5 := Lib.hid (below_up hB.out z5.2.2.2.2.2.2.2.2.2.2.2.2)
      clear z5 b5 hHeld z0
      go_wp2_with fail
      go_roundw
      case rel => exact ⟨k + 1, by go_num, hk1, B5⟩
      case measure => simp [intOf]; omega
    · obtain rfl : n = k := by omega
      have d1 : decide ((n : Int) < (n : Int)) = false := by simp
      clear hk hlt
      go_wp2_with fail
      go_ret
      exact ⟨rfl, hB.out⟩
end Go.Proofs.Ytdeofifidjbolaa
