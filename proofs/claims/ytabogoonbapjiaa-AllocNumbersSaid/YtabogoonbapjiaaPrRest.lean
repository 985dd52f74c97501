/-
  Of the document's shares by size: Rest, Both.
-/
import Derived.Test.YtabogoonbapjiaaPr
import Derived.Test.YtabogoonbapjiaaFiShare
import Derived.Deep.RegionHeld3
namespace Go.Proofs.Ytabogoonbapjiaa
open Go.RowKit
set_option linter.unusedVariables false
set_option linter.unusedSimpArgs false

set_option maxRecDepth 100000 in
set_option maxHeartbeats 1600000 in
theorem RRest_any (A : Option Addr) (n cap : Nat) (xs : List Int) (B : Option Addr) (cb : Nat) (bs : List Int) (w : World) (hn : n ≤ 250) (h : Hid (Holds w A n xs)) (hb : Hid (Holds w B n bs)) (hx : Hid (∀ k, k < n → 0 ≤ bs.getD k 0 ∧ bs.getD k 0 ≤ 1000000 ∧ 0 ≤ xs.getD k 0 ∧ xs.getD k 0 ≤ 1000000)) :
    Calls Try.prog 36 #[.slice A n cap, .slice B n cb] w (Gave w (subZ xs bs)) := by
  have hlen := h.out.1
  have hlb := hb.out.1
  have hll : xs.length = bs.length := by omega
  have hsl : (subZ xs bs).length = n := by rw [subZ_len hll]; exact hlen
  have hget : ∀ k, k < n → (subZ xs bs).getD k 0 = xs.getD k 0 - bs.getD k 0 := fun k hk => subZ_get hll (by omega)
  obtain ⟨F, hF⟩ : ∃ F, subZ xs bs = F := ⟨_, rfl⟩
  rw [hF] at hsl ⊢
  simp only [hF] at hget
  have more : ∀ k, k < n → F.take (k + 1) = F.take k ++ [xs.getD k 0 - bs.getD k 0] := fun k hk => by
    rw [← hget k hk]; exact take_snoc (by omega)
  have few : ∀ k, (F.take k).length ≤ 250 := fun k => by rw [List.length_take]; omega
  replace more := Lib.hid more
  replace few := Lib.hid few
  replace hF := Lib.hid hF
  clear hget
  obtain ⟨i0, hi0, hz0, hz1, hz2⟩ := info_parts info_num
  have R0 := Lib.hid (row_nil w w.heap.size)
  have B0 := Lib.hid (Below.refl w.heap.size w)
  obtain ⟨g, hg⟩ : ∃ g, w.heap.size = g := ⟨_, rfl⟩
  rw [hg] at R0 B0
  replace hg := Lib.hid hg
  go_enter Try.func36, Try.ntmps36
  go_wp2_with fail
  go_loopw [5, 6] (fun u i wr => ∃ (k : Nat), i = .int .i64 k ∧ k ≤ n ∧ Hid (Row wr g u (F.take k)) ∧ Hid (Below g w wr)) (fun _ i _ => n - (intOf i).toNat)
  case atStart => exact ⟨0, rfl, by omega, Lib.hid (by rw [List.take_zero]; exact R0.out), B0⟩
  case round =>
    obtain ⟨k, rfl, hk, hR, hB⟩ := hrel
    by_cases hlt : k < n
    · have HW := h.out.below (hg.out ▸ hB.out)
      have HV := hb.out.below (hg.out ▸ hB.out)
      obtain ⟨b, off, rfl, hc⟩ := HW.2.2 (by omega)
      obtain ⟨b2, off2, rfl, hc2⟩ := HV.2.2 (by omega)
      have y1 := hc k hlt
      have y2 := hc2 k hlt
      have lt1 : b < g := by rw [← hg.out]; obtain ⟨b', o', e, hq⟩ := h.out.2.2 (show 0 < n by omega); injection e with e; injection e with e e2; subst e; exact World.block_lt_of_cell? w _ (hq 0 (by omega))
      have lt2 : b2 < g := by rw [← hg.out]; obtain ⟨b', o', e, hq⟩ := hb.out.2.2 (show 0 < n by omega); injection e with e; injection e with e e2; subst e; exact World.block_lt_of_cell? w _ (hq 0 (by omega))
      have hw : g ≤ wr.heap.size := by rw [← hg.out]; exact hB.out.size
      obtain ⟨x1, x2, x3, x4⟩ := hx.out k hlt
      have mk := more.out k hlt
      have fk := few.out k
      clear hc hc2 HW HV
      generalize xs.getD k 0 = x at *
      generalize bs.getD k 0 = y at *
      replace mk := Lib.hid mk
      have d1 : decide ((k : Int) < (n : Int)) = true := decide_eq_true (by omega)
      have d1' : (k : Int) < (n : Int) := by omega
      have hw0 : (fun W : World => W.cell? ⟨b, off + k, none⟩ = some (.int .i64 x) ∧ W.cell? ⟨b2, off2 + k, none⟩ = some (.int .i64 y)) wr := ⟨y1, y2⟩
      have hw1 : (fun W : World => W.cell? ⟨b, off + k, none⟩ = some (.int .i64 x) ∧ W.cell? ⟨b2, off2 + k, none⟩ = some (.int .i64 y)) wr.drew := ⟨y1, y2⟩
      have hwa : ∀ o, (fun W : World => W.cell? ⟨b, off + k, none⟩ = some (.int .i64 x) ∧ W.cell? ⟨b2, off2 + k, none⟩ = some (.int .i64 y)) ((wr.alloc o).drew) := fun o => ⟨(World.cell?_alloc_lt _ _ _ (World.block_lt_of_cell? wr _ y1)).trans y1, (World.cell?_alloc_lt _ _ _ (World.block_lt_of_cell? wr _ y2)).trans y2⟩
      have hwb : ∀ o, (fun W : World => W.cell? ⟨b, off + k, none⟩ = some (.int .i64 x) ∧ W.cell? ⟨b2, off2 + k, none⟩ = some (.int .i64 y)) (wr.drew.alloc o) := hwa
      have wr1 : IntKind.i64.wrap (x - y) = x - y := IntWalk.i64_in _ (by omega)
      have O1 := Lib.hid ((hR.out.alloc (.cells #[.int .i64 (x - y)] 2)).drewN 1)
      have q1 := Lib.hid (one_lit wr (x - y) 2 (by omega) (by omega))
      have sz3 : g ≤ (wr.alloc (.cells #[.int .i64 (x - y)] 2)).drew.heap.size := by
        have : (wr.alloc (.cells #[.int .i64 (x - y)] 2)).drew.heap.size = wr.heap.size + 1 := by simp
        omega
      have c1' := Lib.hid ((hB.out.alloc hw (.cells #[.int .i64 (x - y)] 2)).drew)
      have hz8 : ∀ w8, ((wr.alloc (.cells #[.int .i64 (x - y)] 2)).drew).grownBy w8 u5.ownBlock → (fun W : World => W.cell? ⟨b, off + k, none⟩ = some (.int .i64 x) ∧ W.cell? ⟨b2, off2 + k, none⟩ = some (.int .i64 y)) w8 := fun w8 gr => ⟨gr.cell (hwa _).1 (fun e => Nat.not_le_of_lt lt1 (Row.lt hR.out e.symm).1), gr.cell (hwa _).2 (fun e => Nat.not_le_of_lt lt2 (Row.lt hR.out e.symm).1)⟩
      go_wp2_with fail
      go_region_held3 (fun W : World => W.cell? ⟨b, off + k, none⟩ = some (.int .i64 x) ∧ W.cell? ⟨b2, off2 + k, none⟩ = some (.int .i64 y)) (first | with_reducible assumption | with_reducible exact hw0 | with_reducible exact hw1 | with_reducible exact hwa _ | with_reducible exact hwb _ | with_reducible exact z8)
        ((refine step_onto (w := (wr.alloc (.cells #[.int .i64 (x - y)] 2)).drew) (by rfl) (.tmp 13) (.tmp 23) 26 (by rfl) g i0 Try.underlying26 hi0 hz0 hz1 hz2 u5 (F.take k) (by rfl) O1.out (some ⟨wr.heap.size, 0, none⟩) 1 1 [x - y] (by rfl) q1.out (fun e => by cases e) (by simp only [List.length_take]; omega) sz3 ?_
          intro v8 w8 r8 gr8 at8; have z8 := hz8 w8 gr8))
      have b8 := Lib.hid (c1'.out.grown gr8 sz3 (fun q hq => (Row.lt hR.out hq).1))
      rw [← mk.out] at r8
      replace r8 := Lib.hid r8
      clear z8 gr8 at8 hz8 hw0 hw1 hwa hwb y1 y2 q1 O1 wr1 c1' sz3
      go_wp2_with fail
      go_roundw
      case rel => exact ⟨k + 1, by go_num, by omega, r8, b8⟩
      case measure => simp [intOf]; omega
    · obtain rfl : k = n := by omega
      have d1 : decide ((k : Int) < (k : Int)) = false := by simp
      have et : F.take k = F := List.take_of_length_le (by omega)
      rw [et] at hR
      replace et := Lib.hid et
      go_wp2_with fail
      go_ret
      exact ⟨_, rfl, by rw [hg.out]; exact hR.out, by rw [hg.out]; exact hB.out⟩

set_option maxRecDepth 100000 in
set_option maxHeartbeats 1600000 in
theorem RBoth_any (A : Option Addr) (n cap : Nat) (xs : List Int) (B : Option Addr) (cb : Nat) (bs : List Int) (w : World) (hn : n ≤ 250) (h : Hid (Holds w A n xs)) (hb : Hid (Holds w B n bs)) (hx : Hid (∀ k, k < n → 0 ≤ bs.getD k 0 ∧ bs.getD k 0 ≤ 1000000 ∧ 0 ≤ xs.getD k 0 ∧ xs.getD k 0 ≤ 1000000)) :
    Calls Try.prog 34 #[.slice A n cap, .slice B n cb] w (Gave w (addZ xs bs)) := by
  have hlen := h.out.1
  have hlb := hb.out.1
  have hll : xs.length = bs.length := by omega
  have hsl : (addZ xs bs).length = n := by rw [addZ_len hll]; exact hlen
  have hget : ∀ k, k < n → (addZ xs bs).getD k 0 = xs.getD k 0 + bs.getD k 0 := fun k hk => addZ_get hll (by omega)
  obtain ⟨F, hF⟩ : ∃ F, addZ xs bs = F := ⟨_, rfl⟩
  rw [hF] at hsl ⊢
  simp only [hF] at hget
  have more : ∀ k, k < n → F.take (k + 1) = F.take k ++ [xs.getD k 0 + bs.getD k 0] := fun k hk => by
    rw [← hget k hk]; exact take_snoc (by omega)
  have few : ∀ k, (F.take k).length ≤ 250 := fun k => by rw [List.length_take]; omega
  replace more := Lib.hid more
  replace few := Lib.hid few
  replace hF := Lib.hid hF
  clear hget
  obtain ⟨i0, hi0, hz0, hz1, hz2⟩ := info_parts info_num
  have R0 := Lib.hid (row_nil w w.heap.size)
  have B0 := Lib.hid (Below.refl w.heap.size w)
  obtain ⟨g, hg⟩ : ∃ g, w.heap.size = g := ⟨_, rfl⟩
  rw [hg] at R0 B0
  replace hg := Lib.hid hg
  go_enter Try.func34, Try.ntmps34
  go_wp2_with fail
  go_loopw [5, 6] (fun u i wr => ∃ (k : Nat), i = .int .i64 k ∧ k ≤ n ∧ Hid (Row wr g u (F.take k)) ∧ Hid (Below g w wr)) (fun _ i _ => n - (intOf i).toNat)
  case atStart => exact ⟨0, rfl, by omega, Lib.hid (by rw [List.take_zero]; exact R0.out), B0⟩
  case round =>
    obtain ⟨k, rfl, hk, hR, hB⟩ := hrel
    by_cases hlt : k < n
    · have HW := h.out.below (hg.out ▸ hB.out)
      have HV := hb.out.below (hg.out ▸ hB.out)
      obtain ⟨b, off, rfl, hc⟩ := HW.2.2 (by omega)
      obtain ⟨b2, off2, rfl, hc2⟩ := HV.2.2 (by omega)
      have y1 := hc k hlt
      have y2 := hc2 k hlt
      have lt1 : b < g := by rw [← hg.out]; obtain ⟨b', o', e, hq⟩ := h.out.2.2 (show 0 < n by omega); injection e with e; injection e with e e2; subst e; exact World.block_lt_of_cell? w _ (hq 0 (by omega))
      have lt2 : b2 < g := by rw [← hg.out]; obtain ⟨b', o', e, hq⟩ := hb.out.2.2 (show 0 < n by omega); injection e with e; injection e with e e2; subst e; exact World.block_lt_of_cell? w _ (hq 0 (by omega))
      have hw : g ≤ wr.heap.size := by rw [← hg.out]; exact hB.out.size
      obtain ⟨x1, x2, x3, x4⟩ := hx.out k hlt
      have mk := more.out k hlt
      have fk := few.out k
      clear hc hc2 HW HV
      generalize xs.getD k 0 = x at *
      generalize bs.getD k 0 = y at *
      replace mk := Lib.hid mk
      have d1 : decide ((k : Int) < (n : Int)) = true := decide_eq_true (by omega)
      have d1' : (k : Int) < (n : Int) := by omega
      have hw0 : (fun W : World => W.cell? ⟨b, off + k, none⟩ = some (.int .i64 x) ∧ W.cell? ⟨b2, off2 + k, none⟩ = some (.int .i64 y)) wr := ⟨y1, y2⟩
      have hw1 : (fun W : World => W.cell? ⟨b, off + k, none⟩ = some (.int .i64 x) ∧ W.cell? ⟨b2, off2 + k, none⟩ = some (.int .i64 y)) wr.drew := ⟨y1, y2⟩
      have hwa : ∀ o, (fun W : World => W.cell? ⟨b, off + k, none⟩ = some (.int .i64 x) ∧ W.cell? ⟨b2, off2 + k, none⟩ = some (.int .i64 y)) ((wr.alloc o).drew) := fun o => ⟨(World.cell?_alloc_lt _ _ _ (World.block_lt_of_cell? wr _ y1)).trans y1, (World.cell?_alloc_lt _ _ _ (World.block_lt_of_cell? wr _ y2)).trans y2⟩
      have hwb : ∀ o, (fun W : World => W.cell? ⟨b, off + k, none⟩ = some (.int .i64 x) ∧ W.cell? ⟨b2, off2 + k, none⟩ = some (.int .i64 y)) (wr.drew.alloc o) := hwa
      have wr1 : IntKind.i64.wrap (x + y) = x + y := IntWalk.i64_in _ (by omega)
      have O1 := Lib.hid ((hR.out.alloc (.cells #[.int .i64 (x + y)] 2)).drewN 1)
      have q1 := Lib.hid (one_lit wr (x + y) 2 (by omega) (by omega))
      have sz3 : g ≤ (wr.alloc (.cells #[.int .i64 (x + y)] 2)).drew.heap.size := by
        have : (wr.alloc (.cells #[.int .i64 (x + y)] 2)).drew.heap.size = wr.heap.size + 1 := by simp
        omega
      have c1' := Lib.hid ((hB.out.alloc hw (.cells #[.int .i64 (x + y)] 2)).drew)
      have hz8 : ∀ w8, ((wr.alloc (.cells #[.int .i64 (x + y)] 2)).drew).grownBy w8 u5.ownBlock → (fun W : World => W.cell? ⟨b, off + k, none⟩ = some (.int .i64 x) ∧ W.cell? ⟨b2, off2 + k, none⟩ = some (.int .i64 y)) w8 := fun w8 gr => ⟨gr.cell (hwa _).1 (fun e => Nat.not_le_of_lt lt1 (Row.lt hR.out e.symm).1), gr.cell (hwa _).2 (fun e => Nat.not_le_of_lt lt2 (Row.lt hR.out e.symm).1)⟩
      go_wp2_with fail
      go_region_held3 (fun W : World => W.cell? ⟨b, off + k, none⟩ = some (.int .i64 x) ∧ W.cell? ⟨b2, off2 + k, none⟩ = some (.int .i64 y)) (first | with_reducible assumption | with_reducible exact hw0 | with_reducible exact hw1 | with_reducible exact hwa _ | with_reducible exact hwb _ | with_reducible exact z8)
        ((refine step_onto (w := (wr.alloc (.cells #[.int .i64 (x + y)] 2)).drew) (by rfl) (.tmp 13) (.tmp 23) 26 (by rfl) g i0 Try.underlying26 hi0 hz0 hz1 hz2 u5 (F.take k) (by rfl) O1.out (some ⟨wr.heap.size, 0, none⟩) 1 1 [x + y] (by rfl) q1.out (fun e => by cases e) (by simp only [List.length_take]; omega) sz3 ?_
          intro v8 w8 r8 gr8 at8; have z8 := hz8 w8 gr8))
      have b8 := Lib.hid (c1'.out.grown gr8 sz3 (fun q hq => (Row.lt hR.out hq).1))
      rw [← mk.out] at r8
      replace r8 := Lib.hid r8
      clear z8 gr8 at8 hz8 hw0 hw1 hwa hwb y1 y2 q1 O1 wr1 c1' sz3
      go_wp2_with fail
      go_roundw
      case rel => exact ⟨k + 1, by go_num, by omega, r8, b8⟩
      case measure => simp [intOf]; omega
    · obtain rfl : k = n := by omega
      have d1 : decide ((k : Int) < (k : Int)) = false := by simp
      have et : F.take k = F := List.take_of_length_le (by omega)
      rw [et] at hR
      replace et := Lib.hid et
      go_wp2_with fail
      go_ret
      exact ⟨_, rfl, by rw [hg.out]; exact hR.out, by rw [hg.out]; exact hB.out⟩
end Go.Proofs.Ytabogoonbapjiaa
