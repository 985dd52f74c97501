/-
  Contract: At, of cornhillref9.
-/
import Derived.Test.YtlknlicokacoiaaRBk
namespace Go.Proofs.Ytlknlicokacoiaa
open Go.RowKit
set_option linter.unusedVariables false
set_option linter.unusedSimpArgs false

theorem info_rorder : (Try.prog.info? 68).map (fun i => (i.zero, i.size, i.bytes)) = some (some (.agg #[.int .i64 0, .int .i64 0, .int .i64 0, .int .i64 0, .bool false]), 5, 40) := by kernel_rfl
def RAPost (D : Nat) (L : List Or) (w : World) (e : Ending) (w' : World) : Prop := ∃ v', e = .returned v' ∧ Own fO 68 w' D v' L ∧ Below D w w'
theorem take_filter {α : Type} {f : α → Bool} {L : List α} {k : Nat} {x : α} (h : L[k]? = some x) : (L.take (k + 1)).filter f = (L.take k).filter f ++ (if f x = true then [x] else []) := by
  rw [List.take_add_one, h, List.filter_append]
  congr 1
  simp [List.filter]
  split <;> simp_all
set_option maxRecDepth 100000 in
set_option maxHeartbeats 2000000 in
theorem RAt_any (B d : Nat) (v : Value) (L : List Or) (s p : Int) (w : World) (hR : Hid (Rm B d v L w)) (hn : L.length ≤ 100000) :
    Calls Try.prog 33 #[.pointer (some ⟨d, 0, none⟩), .int .i64 s, .int .i64 p] w (RAPost w.heap.size (atO L s p) w) := by
  obtain ⟨i0, hi0, hz0, hz1, hz2⟩ := info_parts info_rorder
  have bs : Hid (Below w.heap.size w w) := Lib.hid (Below.refl _ _)
  have st0 : Hid (Own fO 68 w w.heap.size (.slice none 0 0) (atO (L.take 0) s p)) := Lib.hid (own_nil _ _ _)
  obtain ⟨A, cap, ev, -, h1, h2, -, -⟩ := hR.out.own.slice
  obtain ⟨n, en⟩ : ∃ n, L.length = n := ⟨_, rfl⟩
  obtain ⟨g, eg⟩ : ∃ g, w.heap.size = g := ⟨_, rfl⟩
  rw [eg] at st0 ⊢
  rw [en] at ev hn h1
  replace eg := Lib.hid eg
  replace en := Lib.hid en
  have hcell : Hid (∀ W, Below w.heap.size w W → W.cell? ⟨d, 0, none⟩ = some (.slice A n cap) ∧ HV fO W A n L) := Lib.hid (fun W h => by
    have h1 := hR.out.below h
    obtain ⟨A', cap', ev', hv', -, -, -, -⟩ := h1.own.slice
    have e2 := ev'.symm.trans ev
    injection e2 with e3 e4 e5
    refine ⟨by rw [h1.cell.1, ev], ?_⟩
    rw [← e3, ← en.out]; exact hv')
  replace ev := Lib.hid ev
  go_enter Try.func33, Try.ntmps33
  go_wp2_with fail
  go_loopw [7, 8] (fun v' i wr => ∃ j : Nat, i = .int .i64 j ∧ j ≤ n ∧ Hid (Own fO 68 wr g v' (atO (L.take j) s p)) ∧ Hid (Below w.heap.size w wr)) (fun _ i _ => (n - intOf i).toNat)
  case atStart => exact ⟨0, rfl, by omega, st0, bs⟩
  case round =>
    clear st0 bs
    obtain ⟨j, rfl, hj, hOw, hB⟩ := hrel
    obtain ⟨c0, hv⟩ := hcell.out wr hB.out
    by_cases hlt : j < n
    · obtain ⟨x, hx⟩ : ∃ x, L[j]? = some x := ⟨_, List.getElem?_eq_getElem (by rw [en.out]; exact hlt)⟩
      have htk := take_filter (f := fun x : Or => decide (x.s = s) && decide (x.p = p)) hx
      obtain ⟨gv, off, rfl, d0, d1, d2, d3, d4⟩ := hv.atO hx
      obtain ⟨xi, xs, xp, xn, xt⟩ := x
      simp only at d0 d1 d2 d3 d4 htk
      have hlt2 : (j : Int) < (n : Int) := by omega
      replace hv := Lib.hid hv
      replace hx := Lib.hid hx
      by_cases h3 : xs = s
      · have k3 : (xs == s) = true := by simpa using h3
        by_cases h4 : xp = p
        · have k4 : (xp == p) = true := by simpa using h4
          have htk2 : Hid (atO (L.take (j + 1)) s p = atO (L.take j) s p ++ [⟨xi, xs, xp, xn, xt⟩]) := Lib.hid (by unfold atO; rw [htk, if_pos (by simp [h3, h4])])
          obtain ⟨W5, eW5⟩ : ∃ W, wr.alloc (.cells #[.int .i64 xi, .int .i64 xs, .int .i64 xp, .int .i64 xn, .bool xt] 68) = W := ⟨_, rfl⟩
          have b5 : Below wr.heap.size wr W5 := by rw [← eW5]; exact (Below.refl _ wr).alloc (Nat.le_refl _) _
          have hO5 := Lib.hid (hOw.out.below b5)
          have hv5 : Hid (HV fO W5 (some ⟨wr.heap.size, 0, none⟩) 1 [⟨xi, xs, xp, xn, xt⟩]) := Lib.hid (hv_oneO (x := ⟨xi, xs, xp, xn, xt⟩) (by rw [← eW5]; exact heap_alloc_new wr _))
          have B5 : Hid (Below w.heap.size w W5) := Lib.hid (hB.out.trans (b5.mono hB.out.size))
          have hg5 : Hid (g ≤ W5.heap.size) := Lib.hid (by have := B5.out.size; have := eg.out; omega)
          have hu := Lib.hid (fun k (hk : u7.ownBlock = some k) => hOw.out.lt k hk)
          have hlen : (atO (L.take j) s p).length + 1 ≤ 1000000 := by
            have := List.length_filter_le (fun x : Or => decide (x.s = s) && decide (x.p = p)) (L.take j)
            unfold atO; rw [List.length_take] at this; omega
          replace b5 := Lib.hid b5
          replace h3 := Lib.hid h3
          replace h4 := Lib.hid h4
          clear htk hOw hB
          go_wp2_with (at_builtin; refine wpList_onto_g (fm := fO) (T := 68) rfl (.tmp 40) (.tmp 48) 25 rfl g i0 (.agg #[.int .i64 0, .int .i64 0, .int .i64 0, .int .i64 0, .bool false]) 40 Try.underlying25 hi0 hz0 hz1 hz2 rfl (by decide) u7 _ rfl hO5.out (some ⟨wr.heap.size, 0, none⟩) 1 1 [⟨xi, xs, xp, xn, xt⟩] rfl hv5.out (fun e => by cases e) hlen hg5.out ?_)
          intro v6 w6 o6 g6 k6
          have o7 : Hid (Own fO 68 w6 g v6 (atO (L.take (j + 1)) s p)) := Lib.hid (by rw [htk2.out]; exact o6)
          have B6 : Hid (Below w.heap.size w w6) := Lib.hid (B5.out.grown g6 (by have := B5.out.size; omega) (fun k hk => by have := (hu.out k hk).1; have := eg.out; omega))
          obtain ⟨c6, -⟩ := hcell.out w6 B6.out
          clear o6 g6 k6 hO5 B5 hv5 eW5 hu c0 d0 d1 d2 d3 d4
          go_wp2_with fail
          go_roundw
          case rel => exact ⟨j + 1, by go_num, by omega, o7, B6⟩
          case measure => simp [intOf]; omega
        · have k4 : (xp == p) = false := by simpa using h4
          have hO2 : Hid (Own fO 68 wr g u7 (atO (L.take (j + 1)) s p)) := Lib.hid (by unfold atO; rw [htk, if_neg (by simp [h4]), List.append_nil]; exact hOw.out)
          replace h3 := Lib.hid h3
          replace h4 := Lib.hid h4
          clear htk hOw
          go_wp2_with fail
          go_roundw
          case rel => exact ⟨j + 1, by go_num, by omega, hO2, hB⟩
          case measure => simp [intOf]; omega
      · have k3 : (xs == s) = false := by simpa using h3
        have hO2 : Hid (Own fO 68 wr g u7 (atO (L.take (j + 1)) s p)) := Lib.hid (by unfold atO; rw [htk, if_neg (by simp [h3]), List.append_nil]; exact hOw.out)
        replace h3 := Lib.hid h3
        clear htk hOw
        go_wp2_with fail
        go_roundw
        case rel => exact ⟨j + 1, by go_num, by omega, hO2, hB⟩
        case measure => simp [intOf]; omega
    · obtain rfl : j = n := by omega
      have hfin : Hid (Own fO 68 wr g u7 (atO L s p)) := Lib.hid (by
        have := hOw.out
        rwa [List.take_of_length_le (by rw [en.out]; exact Nat.le_refl _)] at this)
      replace hv := Lib.hid hv
      clear hOw
      go_wp2_with fail
      go_ret
      exact ⟨_, rfl, hfin.out, by have := hB.out; rw [eg.out] at this; exact this⟩
end Go.Proofs.Ytlknlicokacoiaa
