/-
  The law's own: orders as the document has them; right orders, of the first thirty.
-/
import Derived.Test.YtabogoonbapjiaaAlLeaf
import Derived.Deep.RegionHeld3
import Derived.Deep.Cut
namespace Go.Proofs.Ytabogoonbapjiaa
open Go.RowKit
set_option linter.unusedVariables false
set_option linter.unusedSimpArgs false

theorem info_order : (Try.prog.info? 23).map (fun i => (i.zero, i.size, i.bytes)) = some (some (.agg #[.int .i64 0, .int .i64 0, .int .i64 0, .int .i64 0, .bool false]), 5, 40) := by kernel_rfl
theorem info_rorder : (Try.prog.info? 47).map (fun i => (i.zero, i.size, i.bytes)) = some (some (.agg #[.int .i64 0, .int .i64 0, .int .i64 0, .int .i64 0, .bool false]), 5, 40) := by kernel_rfl
theorem build_rorder (i s p n : Int) (t : Bool) : ∀ W : World, (Instr.build 47 #[(0, .int .i64 i), (1, .int .i64 s), (2, .int .i64 p), (3, .int .i64 n), (4, .bool t)]).run Try.prog W = .ok (.agg #[.int .i64 i, .int .i64 s, .int .i64 p, .int .i64 n, .bool t]) W := fun W => by kernel_rfl
/-- One order, laid. -/
theorem or_lit (w : World) (i s p n : Int) (t : Bool) (T : TypeId) : HV fO (w.alloc (.cells #[.int .i64 i, .int .i64 s, .int .i64 p, .int .i64 n, .bool t] T)) (some ⟨w.heap.size, 0, none⟩) 1 [⟨i, s, p, n, t⟩] := by
  refine ⟨rfl, fun j x hx => ⟨w.heap.size, 0, rfl, fun m u hu => ?_⟩⟩
  have hj : j = 0 := by have := (List.getElem?_eq_some_iff.1 hx).1; simpa using this
  subst hj
  have hx : (⟨i, s, p, n, t⟩ : Or) = x := by simpa using hx
  subst hx
  have hh := heap_alloc_new w (.cells #[.int .i64 i, .int .i64 s, .int .i64 p, .int .i64 n, .bool t] T)
  rw [show 0 + 0 * fO.k + m = m by omega, Lib.cell_of_heap hh]
  rw [← hu, ← Array.getElem?_toList]
  rfl
/-- What a call leaves that answers orders of type T. -/
def GaveO (T : TypeId) (w : World) (L : List Or) (e : Ending) (w' : World) : Prop := ∃ v, e = .returned v ∧ Own fO T w' w.heap.size v L ∧ Below w.heap.size w w'
set_option maxRecDepth 100000 in
set_option maxHeartbeats 3200000 in
theorem In_any (A : Option Addr) (n cap : Nat) (L : List Or) (w : World) (hn : n ≤ 1000) (h : Hid (HV fO w A n L)) (hok : Hid (OkO L)) :
    Calls Try.prog 11 #[.slice A n cap] w (GaveO 47 w L) := by
  obtain ⟨i0, hi0, hz0, hz1, hz2⟩ := info_parts info_rorder
  have hlen := h.out.1
  have hex : Hid (∀ k, k < n → ∃ x, L[k]? = some x) := Lib.hid (fun k hk => or_at (by omega))
  have hend : Hid (L.take n = L) := Lib.hid (List.take_of_length_le (by omega))
  replace hlen := Lib.hid hlen
  have R0 := Lib.hid (own_nil (fm := fO) 47 w w.heap.size)
  have B0 := Lib.hid (Below.refl w.heap.size w)
  obtain ⟨g, hg⟩ : ∃ g, w.heap.size = g := ⟨_, rfl⟩
  rw [hg] at R0 B0
  replace hg := Lib.hid hg
  have bld := Lib.hid build_rorder
  go_enter Try.func11, Try.ntmps11
  go_wp2_with fail
  go_loopw [3, 4] (fun u i wr => ∃ (k : Nat), i = .int .i64 k ∧ k ≤ n ∧ Hid (Own fO 47 wr g u (L.take k)) ∧ Hid (Below g w wr)) (fun _ i _ => n - (intOf i).toNat)
  case atStart => exact ⟨0, rfl, by omega, by simpa using R0, B0⟩
  case round =>
    clear R0 B0
    obtain ⟨k, rfl, hk, hR, hB⟩ := hrel
    by_cases hlt : k < n
    · obtain ⟨x, hx⟩ := hex.out k hlt
      have HW := h.out.below (hg.out ▸ hB.out)
      obtain ⟨b, off, rfl, c0, c1, c2, c3, c4⟩ := HW.atO hx
      have hnx := or_next hx
      obtain ⟨xi, xs, xp, xn, xt⟩ := x
      simp only at c0 c1 c2 c3 c4
      have bld1 := bld.out xi xs xp xn xt
      have hw : g ≤ wr.heap.size := by rw [← hg.out]; exact hB.out.size
      have htl : (L.take k).length ≤ 1000 := by rw [List.length_take]; omega
      have d1 : decide ((k : Int) < (n : Int)) = true := decide_eq_true (by omega)
      have d1' : (k : Int) < (n : Int) := by omega
      replace hx := Lib.hid hx
      replace hnx := Lib.hid hnx
      have hblt : b < wr.heap.size := World.block_lt_of_cell? wr _ c0
      have hbg : b < g := by
        have := h.out.lt hx.out (by decide) _ rfl
        rw [hg.out] at this
        exact this
      have hw0 : (fun W : World => W.cell? ⟨b, off + k * 5, none⟩ = some (.int .i64 xi) ∧ W.cell? ⟨b, off + k * 5 + 1, none⟩ = some (.int .i64 xs) ∧ W.cell? ⟨b, off + k * 5 + 2, none⟩ = some (.int .i64 xp) ∧ W.cell? ⟨b, off + k * 5 + 3, none⟩ = some (.int .i64 xn) ∧ W.cell? ⟨b, off + k * 5 + 4, none⟩ = some (.bool xt)) wr.drew := ⟨c0, c1, c2, c3, c4⟩
      have LL : Hid (∀ X : World, X.heap[b]? = wr.heap[b]? → (fun W : World => W.cell? ⟨b, off + k * 5, none⟩ = some (.int .i64 xi) ∧ W.cell? ⟨b, off + k * 5 + 1, none⟩ = some (.int .i64 xs) ∧ W.cell? ⟨b, off + k * 5 + 2, none⟩ = some (.int .i64 xp) ∧ W.cell? ⟨b, off + k * 5 + 3, none⟩ = some (.int .i64 xn) ∧ W.cell? ⟨b, off + k * 5 + 4, none⟩ = some (.bool xt)) X) := Lib.hid (fun X e => ⟨(World.cell?_of_block (a := ⟨b, off + k * 5, none⟩) e).trans c0, (World.cell?_of_block (a := ⟨b, off + k * 5 + 1, none⟩) e).trans c1, (World.cell?_of_block (a := ⟨b, off + k * 5 + 2, none⟩) e).trans c2, (World.cell?_of_block (a := ⟨b, off + k * 5 + 3, none⟩) e).trans c3, (World.cell?_of_block (a := ⟨b, off + k * 5 + 4, none⟩) e).trans c4⟩)
      have hwa : ∀ o, (fun W : World => W.cell? ⟨b, off + k * 5, none⟩ = some (.int .i64 xi) ∧ W.cell? ⟨b, off + k * 5 + 1, none⟩ = some (.int .i64 xs) ∧ W.cell? ⟨b, off + k * 5 + 2, none⟩ = some (.int .i64 xp) ∧ W.cell? ⟨b, off + k * 5 + 3, none⟩ = some (.int .i64 xn) ∧ W.cell? ⟨b, off + k * 5 + 4, none⟩ = some (.bool xt)) ((wr.alloc o).drew) := fun o => LL.out _ (heap_alloc_old _ _ hblt)
      have hwb : ∀ o, (fun W : World => W.cell? ⟨b, off + k * 5, none⟩ = some (.int .i64 xi) ∧ W.cell? ⟨b, off + k * 5 + 1, none⟩ = some (.int .i64 xs) ∧ W.cell? ⟨b, off + k * 5 + 2, none⟩ = some (.int .i64 xp) ∧ W.cell? ⟨b, off + k * 5 + 3, none⟩ = some (.int .i64 xn) ∧ W.cell? ⟨b, off + k * 5 + 4, none⟩ = some (.bool xt)) (wr.drew.alloc o) := fun o => LL.out _ (heap_alloc_old wr.drew _ hblt)
      have q1 := Lib.hid (or_lit wr.drew xi xs xp xn xt 47)
      have O1 : Hid (Own fO 47 (wr.alloc (.cells #[.int .i64 xi, .int .i64 xs, .int .i64 xp, .int .i64 xn, .bool xt] 47)).drew g u3 (L.take k)) := Lib.hid (Own.below (w := wr) hR.out (((Below.refl _ wr).alloc (Nat.le_refl _) _).drew))
      have sz3 : g ≤ (wr.alloc (.cells #[.int .i64 xi, .int .i64 xs, .int .i64 xp, .int .i64 xn, .bool xt] 47)).drew.heap.size := by
        have : (wr.alloc (.cells #[.int .i64 xi, .int .i64 xs, .int .i64 xp, .int .i64 xn, .bool xt] 47)).drew.heap.size = wr.heap.size + 1 := by simp
        omega
      have hz8 : ∀ w8, ((wr.alloc (.cells #[.int .i64 xi, .int .i64 xs, .int .i64 xp, .int .i64 xn, .bool xt] 47)).drew).grownBy w8 u3.ownBlock → (fun W : World => W.cell? ⟨b, off + k * 5, none⟩ = some (.int .i64 xi) ∧ W.cell? ⟨b, off + k * 5 + 1, none⟩ = some (.int .i64 xs) ∧ W.cell? ⟨b, off + k * 5 + 2, none⟩ = some (.int .i64 xp) ∧ W.cell? ⟨b, off + k * 5 + 3, none⟩ = some (.int .i64 xn) ∧ W.cell? ⟨b, off + k * 5 + 4, none⟩ = some (.bool xt)) w8 := fun w8 gr => LL.out _ ((gr.block b (by
          have : (wr.alloc (.cells #[.int .i64 xi, .int .i64 xs, .int .i64 xp, .int .i64 xn, .bool xt] 47)).drew.heap.size = wr.heap.size + 1 := by simp
          omega) (fun e => Nat.not_le_of_lt hbg (hR.out.lt _ e.symm).1)).trans (heap_alloc_old _ _ hblt))
      have c1' := Lib.hid ((hB.out.alloc hw (.cells #[.int .i64 xi, .int .i64 xs, .int .i64 xp, .int .i64 xn, .bool xt] 47)).drew)
      go_upto_region 5 with (fail)
      go_region_held3 (fun W : World => W.cell? ⟨b, off + k * 5, none⟩ = some (.int .i64 xi) ∧ W.cell? ⟨b, off + k * 5 + 1, none⟩ = some (.int .i64 xs) ∧ W.cell? ⟨b, off + k * 5 + 2, none⟩ = some (.int .i64 xp) ∧ W.cell? ⟨b, off + k * 5 + 3, none⟩ = some (.int .i64 xn) ∧ W.cell? ⟨b, off + k * 5 + 4, none⟩ = some (.bool xt)) (first | with_reducible assumption | with_reducible exact hw0 | with_reducible exact hwa _ | with_reducible exact hwb _ | with_reducible exact z8)
        ((refine step_onto_g (fm := fO) (T := 47) (w := (wr.alloc (.cells #[.int .i64 xi, .int .i64 xs, .int .i64 xp, .int .i64 xn, .bool xt] 47)).drew) (by rfl) (.tmp 11) (.tmp 38) 33 (by rfl) g i0 (.agg #[.int .i64 0, .int .i64 0, .int .i64 0, .int .i64 0, .bool false]) 40 Try.underlying33 hi0 hz0 hz1 hz2 rfl (by omega) u3 (L.take k) (by rfl) O1.out (some ⟨wr.heap.size, 0, none⟩) 1 1 [⟨xi, xs, xp, xn, xt⟩] (by rfl) q1.out (fun e => by cases e) (by omega) sz3 ?_
          intro v8 w8 r8 gr8 at8; have z8 := hz8 w8 gr8))
      rw [← hnx.out] at r8
      have B8 := Lib.hid (c1'.out.grown gr8 sz3 (fun q hq => (hR.out.lt q hq).1))
      replace r8 := Lib.hid r8
      clear gr8 at8 hz8 hwa hwb hw0 z8
      go_wp2_with fail
      go_roundw
      case rel => exact ⟨k + 1, by go_num, by omega, r8, B8⟩
      case measure => simp [intOf]; omega
    · obtain rfl : k = n := by omega
      have d1 : decide ((k : Int) < (k : Int)) = false := by simp
      rw [hend.out] at hR
      go_wp2_with fail
      go_ret
      exact ⟨_, rfl, by rw [hg.out]; exact hR.out, by rw [hg.out]; exact hB.out⟩
end Go.Proofs.Ytabogoonbapjiaa
