/-
  The law's own orders: right ones, of the first thirty, and their quantities.
-/
import Derived.Test.YtabogoonbapjiaaAlIn
namespace Go.Proofs.Ytabogoonbapjiaa
open Go.RowKit
set_option linter.unusedVariables false
set_option linter.unusedSimpArgs false

/-- What a call leaves that answers orders and their quantities, apart. -/
def GaveS (w : World) (L : List Or) (e : Ending) (w' : World) : Prop := ∃ v u, e = .returned (.tuple #[v, u]) ∧ Own fO 23 w' w.heap.size v L ∧ Row w' w.heap.size u (qtys L) ∧ (∀ q, v.ownBlock = some q → u.ownBlock ≠ some q) ∧ Below w.heap.size w w'
theorem qtys_snoc (M : List Or) (x : Or) : qtys (M ++ [x]) = qtys M ++ [x.n] := by simp [qtys]
theorem cells5 {W : World} {g : Nat} {T : TypeId} {x0 x1 x2 x3 x4 : Value} (h : W.heap[g]? = some (.cells #[x0, x1, x2, x3, x4] T (0, 0))) : W.cell? ⟨g, 0, none⟩ = some x0 ∧ W.cell? ⟨g, 1, none⟩ = some x1 ∧ W.cell? ⟨g, 2, none⟩ = some x2 ∧ W.cell? ⟨g, 3, none⟩ = some x3 ∧ W.cell? ⟨g, 4, none⟩ = some x4 ∧ W.frozen? ⟨g, 3, none⟩ = false := by
  refine ⟨?_, ?_, ?_, ?_, ?_, Lib.frozen_of_heap h 3⟩ <;> (rw [Lib.cell_of_heap h]; rfl)
set_option maxRecDepth 100000 in
set_option maxHeartbeats 3200000 in
theorem Some_any (A : Option Addr) (n cap : Nat) (L : List Or) (w : World) (h : Hid (HV fO w A n L)) (hok : Hid (OkO L)) :
    Calls Try.prog 13 #[.slice A n cap] w (GaveS w (someO L)) := by
  obtain ⟨i0, hi0, hz0, hz1, hz2⟩ := info_parts info_order
  obtain ⟨i1, hi1, hy0, hy1, hy2⟩ := info_parts info_num
  have hlen := h.out.1
  have hsl := some_len L
  have hex : Hid (∀ k, k < n → ∃ x, L[k]? = some x) := Lib.hid (fun k hk => or_at (by omega))
  have hnx0 : Hid (∀ k x, L[k]? = some x → k < 30 → (someO L).take (k + 1) = (someO L).take k ++ [{ x with n := 1 + (withinN x.n 40 : Int) }]) := Lib.hid (fun k x hx h30 => some_next hx h30)
  obtain ⟨F, hF⟩ : ∃ F, someO L = F := ⟨_, rfl⟩
  rw [hF] at hsl hnx0 ⊢
  have hend : Hid (∀ k, (k = n ∨ k = 30) → k ≤ n → k ≤ 30 → F.take k = F) := Lib.hid (fun k hk h1 h2 => List.take_of_length_le (by omega))
  have hfl : Hid (F.length ≤ 30) := Lib.hid (by omega)
  replace hF := Lib.hid hF
  replace hlen := Lib.hid hlen
  replace hsl := Lib.hid hsl
  have R0 := Lib.hid (own_nil (fm := fO) 23 w w.heap.size)
  have S0 := Lib.hid (row_nil w w.heap.size)
  have B0 := Lib.hid (Below.refl w.heap.size w)
  obtain ⟨g, hg⟩ : ∃ g, w.heap.size = g := ⟨_, rfl⟩
  rw [hg] at R0 S0 B0
  replace hg := Lib.hid hg
  go_enter Try.func13, Try.ntmps13
  go_wp2_with fail
  go_loopw [4, 5, 6] (fun u z i wr => ∃ (k : Nat), i = .int .i64 k ∧ k ≤ n ∧ k ≤ 30 ∧ Hid (Own fO 23 wr g u (F.take k)) ∧ Hid (Row wr g z (qtys (F.take k))) ∧ Hid (∀ q, u.ownBlock = some q → z.ownBlock ≠ some q) ∧ Hid (Below g w wr)) (fun _ _ i _ => (30 - intOf i).toNat)
  case atStart => exact ⟨0, rfl, by omega, by omega, by simpa using R0, Lib.hid (by rw [List.take_zero]; exact S0.out), Lib.hid (fun q e => by cases e), B0⟩
  case round =>
    clear R0 S0 B0
    obtain ⟨k, rfl, hk, hk2, hR, hZ, hne, hB⟩ := hrel
    by_cases hlt : k < n
    · have d1 : decide ((k : Int) < (n : Int)) = true := decide_eq_true (by omega)
      have d1' : (k : Int) < (n : Int) := by omega
      by_cases h30 : k < 30
      · have d2 : decide ((k : Int) < 30) = true := decide_eq_true (by omega)
        obtain ⟨x, hx⟩ := hex.out k hlt
        have hnx := hnx0.out k x hx h30
        have hOx := hok.out.at' hx
        have HW := h.out.below (hg.out ▸ hB.out)
        obtain ⟨b, off, rfl, c0, c1, c2, c3, c4⟩ := HW.atO hx
        obtain ⟨x1, x2⟩ := hOx.n
        have hwl := withinN_le x.n 40
        obtain ⟨xi, xs, xp, xn, xt⟩ := x
        simp only at c0 c1 c2 c3 c4 hnx x1 x2 hwl
        obtain ⟨y, hy⟩ : ∃ y, withinN xn 40 = y := ⟨_, rfl⟩
        rw [hy] at hnx hwl
        have hw : g ≤ wr.heap.size := by rw [← hg.out]; exact hB.out.size
        have htl : (F.take k).length ≤ 30 := by rw [List.length_take]; omega
        have hql : (qtys (F.take k)).length ≤ 30 := by rw [qtys_len]; exact htl
        replace hx := Lib.hid hx
        obtain ⟨ga, ega⟩ : ∃ ga, wr.heap.size = ga := ⟨_, rfl⟩
        obtain ⟨wa, ewa⟩ : ∃ wa, wr.alloc (.cells #[.int .i64 xi, .int .i64 xs, .int .i64 xp, .int .i64 xn, .bool xt] 23) = wa := ⟨_, rfl⟩
        have hba : wa.heap[ga]? = some (.cells #[.int .i64 xi, .int .i64 xs, .int .i64 xp, .int .i64 xn, .bool xt] 23 (0, 0)) := by rw [← ewa, ← ega]; exact heap_alloc_new wr _
        have hsa : wa.heap.size = ga + 1 := by rw [← ewa, World.size_alloc, ega]
        have hRa : Own fO 23 wa g u4 (F.take k) := by rw [← ewa]; exact hR.out.below ((Below.refl _ _).alloc (Nat.le_refl _) _)
        have hZa : Row wa g u5 (qtys (F.take k)) := by rw [← ewa]; exact hZ.out.alloc _
        have hBa : Below g w wa := by rw [← ewa]; exact hB.out.alloc (by omega) _
        have l4 : ∀ q, u4.ownBlock = some q → g ≤ q ∧ q < ga := fun q e => by rw [← ega]; exact hR.out.lt q e
        have l5 : ∀ q, u5.ownBlock = some q → g ≤ q ∧ q < ga := fun q e => by rw [← ega]; exact hZ.out.lt e
        obtain ⟨wb, ewb⟩ : ∃ wb, wa.setCell ⟨ga, 3, none⟩ (.int .i64 (1 + (y : Int))) = wb := ⟨_, rfl⟩
        have hO := set_only wa ga 3 (.int .i64 (1 + (y : Int)))
        rw [ewb] at hO
        have hbb : wb.heap[ga]? = some (.cells #[.int .i64 xi, .int .i64 xs, .int .i64 xp, .int .i64 (1 + (y : Int)), .bool xt] 23 (0, 0)) := by rw [← ewb]; exact heap_setCell_same wa ga 3 _ _ _ hba
        have hsb : wb.heap.size = ga + 1 := by rw [← ewb, ← hsa]; simp [World.setCell]
        have hRb : Own fO 23 wb g u4 (F.take k) := hRa.only hO (fun q e e2 => by have := (l4 q e).2; omega)
        have hZb : Row wb g u5 (qtys (F.take k)) := hZa.only hO (fun q e e2 => by have := (l5 q e).2; omega)
        have hBb : Below g w wb := hBa.trans (hO.below (by omega) (fun j hj e => by omega))
        have q1 := Lib.hid (or_lit wb xi xs xp (1 + (y : Int)) xt 23)
        have sz3 : g ≤ (wb.alloc (.cells #[.int .i64 xi, .int .i64 xs, .int .i64 xp, .int .i64 (1 + (y : Int)), .bool xt] 23)).heap.size := by simp; omega
        have ba := Lib.hid (hBb.alloc (by omega) (.cells #[.int .i64 xi, .int .i64 xs, .int .i64 xp, .int .i64 (1 + (y : Int)), .bool xt] 23))
        have hwi := Within_any xn 40 wa (by omega) x1 x2
        rw [hy] at hwi
        replace hwi := Lib.hid hwi
        replace hy := Lib.hid hy
        replace hnx := Lib.hid hnx
        obtain ⟨a0, a1, a2, a3, a4, af⟩ := cells5 hba
        obtain ⟨b0, b1, b2, b3, b4, bf⟩ := cells5 hbb
        replace hba := Lib.hid hba
        replace hbb := Lib.hid hbb
        replace ewa := Lib.hid ewa
        replace ega := Lib.hid ega
        replace ewb := Lib.hid ewb
        replace hRb := Lib.hid hRb
        replace hZb := Lib.hid hZb
        replace l4 := Lib.hid l4
        replace l5 := Lib.hid l5
        replace hsb := Lib.hid hsb
        clear HW hO hRa hZa hBa hBb hsa hR hZ
        go_upto_region 7 with (fail)
        rw [ewa.out, ega.out]
        clear c0 c1 c2 c3 c4
        go_wp2_with fail
        refine hwi.out.mono ?_
        rintro e wa ⟨rfl, rfl⟩
        clear hwi
        go_upto_region 8 with (fail)
        rw [ewb.out]
        clear a0 a1 a2 a3 a4 af
        go_wp2_with (at_builtin; refine wpList_onto_g (fm := fO) (T := 23) (by rfl) (.tmp 27) (.tmp 29) 24 (by rfl) g i0 (.agg #[.int .i64 0, .int .i64 0, .int .i64 0, .int .i64 0, .bool false]) 40 Try.underlying24 hi0 hz0 hz1 hz2 rfl (by omega) u4 (F.take k) (by rfl) (hRb.out.below ((Below.refl _ _).alloc (Nat.le_refl _) _)) (some ⟨wb.heap.size, 0, none⟩) 1 1 [⟨xi, xs, xp, 1 + (y : Int), xt⟩] (by rfl) q1.out (fun e => by cases e) (by omega) sz3 ?_)
        intro v8 w8 r8 g8 o8
        rw [← hnx.out] at r8
        have sab : (wb.alloc (.cells #[.int .i64 xi, .int .i64 xs, .int .i64 xp, .int .i64 (1 + (y : Int)), .bool xt] 23)).heap.size = ga + 2 := by rw [World.size_alloc, hsb.out]
        have hB8 : Below g w w8 := ba.out.grown g8 sz3 (fun q hq => (l4.out q hq).1)
        have hZ8 : Row w8 g u5 (qtys (F.take k)) := (hZb.out.alloc _).only (only_grown g8) (fun q hq e => hne.out q e.symm hq)
        have hg8 : w8.heap[ga]? = some (.cells #[.int .i64 xi, .int .i64 xs, .int .i64 xp, .int .i64 (1 + (y : Int)), .bool xt] 23 (0, 0)) := (g8.block ga (by rw [sab]; omega) (fun e => by have := (l4.out ga e.symm).2; omega)).trans ((heap_alloc_old wb _ (by rw [hsb.out]; omega)).trans hbb.out)
        have ne8 : ∀ q, v8.ownBlock = some q → u5.ownBlock ≠ some q := fun q e e2 => by
          rcases o8 with hh | hh
          · rw [hh] at e; exact hne.out q e e2
          · rw [hh] at e
            injection e with e
            have := (l5.out q e2).2
            have := hsb.out
            omega
        have sz8 : g ≤ w8.heap.size := by have := hB8.size; rw [hg.out] at this; exact this
        have h1 := Lib.hid (one_lit w8 (1 + (y : Int)) 2 (by omega) (by omega))
        have hb1 : g ≤ (w8.alloc (.cells #[.int .i64 (1 + (y : Int))] 2)).heap.size := by simp; omega
        have bc := Lib.hid (hB8.alloc sz8 (.cells #[.int .i64 (1 + (y : Int))] 2))
        obtain ⟨-, -, -, f3, -, -⟩ := cells5 hg8
        replace r8 := Lib.hid r8
        replace hZ8 := Lib.hid hZ8
        replace ne8 := Lib.hid ne8
        clear b0 b1 b2 b3 b4 bf q1 ba g8 o8 hg8 hB8 hRb hZb sab
        go_wp2_with (at_builtin; refine wpList_onto (by rfl) (.tmp 31) (.tmp 34) 26 (by rfl) g i1 Try.underlying26 hi1 hy0 hy1 hy2 u5 (qtys (F.take k)) (by rfl) (hZ8.out.alloc _) (some ⟨w8.heap.size, 0, none⟩) 1 1 [1 + (y : Int)] (by rfl) h1.out (fun e => by cases e) (by omega) hb1 ?_)
        intro v9 w9 r9 g9 o9
        have r9' : Row w9 g v9 (qtys (F.take (k + 1))) := by rw [hnx.out, qtys_snoc]; exact r9
        have hB9 := Lib.hid (bc.out.grown g9 hb1 (fun q hq => (hZ8.out.lt hq).1))
        have hO9 : Hid (Own fO 23 w9 g v8 (F.take (k + 1))) := Lib.hid ((r8.out.below ((Below.refl _ _).alloc (Nat.le_refl _) _)).only (only_grown g9) (fun q hq e => ne8.out q hq e.symm))
        have ne9 : Hid (∀ q, v8.ownBlock = some q → v9.ownBlock ≠ some q) := Lib.hid (fun q e e2 => by
          rcases o9 with hh | hh
          · rw [hh] at e2; exact ne8.out q e e2
          · rw [hh] at e2
            injection e2 with e2
            have a := (r8.out.lt q e).2
            have c : (w8.alloc (.cells #[.int .i64 (1 + (y : Int))] 2)).heap.size = w8.heap.size + 1 := World.size_alloc ..
            omega)
        replace r9' := Lib.hid r9'
        clear r9 g9 o9 h1 bc f3 hZ8 r8
        go_wp2_with fail
        go_roundw
        case rel => exact ⟨k + 1, by go_num, by omega, by omega, hO9, r9', ne9, hB9⟩
        case measure => simp [intOf]; omega
      · have d2 : decide ((k : Int) < 30) = false := decide_eq_false (by omega)
        have e := hend.out k (.inr (by omega)) hk hk2
        rw [e] at hR hZ
        replace e := Lib.hid e
        go_wp2_with fail
        go_ret2
        exact ⟨_, _, rfl, by rw [hg.out]; exact hR.out, by rw [hg.out]; exact hZ.out, hne.out, by rw [hg.out]; exact hB.out⟩
    · have d1 : decide ((k : Int) < (n : Int)) = false := decide_eq_false (by omega)
      have e := hend.out k (.inl (by omega)) hk hk2
      rw [e] at hR hZ
      replace e := Lib.hid e
      go_wp2_with fail
      go_ret2
      exact ⟨_, _, rfl, by rw [hg.out]; exact hR.out, by rw [hg.out]; exact hZ.out, hne.out, by rw [hg.out]; exact hB.out⟩
end Go.Proofs.Ytabogoonbapjiaa
