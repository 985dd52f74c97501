/-
  The law's own: tops as the document has them.
-/
import Derived.Test.YtdeofifidjbolaaIm
import Derived.Test.YtdeofifidjbolaaImJoin
import Derived.Deep.RegionHeld3
import Derived.Deep.Cut
namespace Go.Proofs.Ytdeofifidjbolaa
open Go.RowKit
set_option linter.unusedVariables false
set_option linter.unusedSimpArgs false

theorem info_rtop : (Try.prog.info? 89).map (fun i => (i.zero, i.size, i.bytes)) = some (some (.agg #[.bool false, .bool false, .int .i64 0, .int .i64 0, .int .i64 0, .int .i64 0]), 6, 40) := by kernel_rfl
theorem build_rtop (a b : Bool) (c d e f : Int) : ∀ W : World, (Instr.build 89 #[(0, .agg #[.bool a, .bool b]), (1, .agg #[.int .i64 c, .int .i64 d]), (2, .agg #[.int .i64 e, .int .i64 f])]).run Try.prog W = .ok (.agg #[.bool a, .bool b, .int .i64 c, .int .i64 d, .int .i64 e, .int .i64 f]) W := fun W => by kernel_rfl
/-- One top, laid. -/
theorem top_lit (w : World) (a b : Bool) (c d e f : Int) (T : TypeId) : HV fTp (w.alloc (.cells #[.bool a, .bool b, .int .i64 c, .int .i64 d, .int .i64 e, .int .i64 f] T)) (some ⟨w.heap.size, 0, none⟩) 1 [⟨a, b, c, d, e, f⟩] := by
  refine ⟨rfl, fun j x hx => ⟨w.heap.size, 0, rfl, fun m u hu => ?_⟩⟩
  have hj : j = 0 := by have := (List.getElem?_eq_some_iff.1 hx).1; simpa using this
  subst hj
  have hx : (⟨a, b, c, d, e, f⟩ : Tp) = x := by simpa using hx
  subst hx
  rw [show 0 + 0 * fTp.k + m = m by omega, Lib.cell_of_heap (heap_alloc_new w _), ← hu, ← Array.getElem?_toList]
  rfl
def GaveT (T : TypeId) (w : World) (L : List Tp) (e : Ending) (w' : World) : Prop := ∃ v, e = .returned v ∧ Own fTp T w' w.heap.size v L ∧ Below w.heap.size w w'
theorem tp_at {L : List Tp} {k : Nat} (h : k < L.length) : ∃ x, L[k]? = some x := ⟨_, List.getElem?_eq_getElem h⟩
theorem tp_next {L : List Tp} {k : Nat} {x : Tp} (h : L[k]? = some x) : L.take (k + 1) = L.take k ++ [x] := by rw [List.take_add_one, h]; rfl
theorem tp_lt {w : World} {A : Option Addr} {n : Nat} {l : List Tp} (h : HV fTp w A n l) {j : Nat} {x : Tp} (hx : l[j]? = some x) : ∀ ad, A = some ad → ad.block < w.heap.size := by
  intro ad e
  obtain ⟨b, off, e2, hc⟩ := h.2 j x hx
  rw [e] at e2
  injection e2 with e2
  subst e2
  have := World.block_lt_of_cell? w _ (hc 0 _ rfl)
  exact this
set_option maxRecDepth 100000 in
set_option maxHeartbeats 3200000 in
theorem In14_any (A : Option Addr) (n cap : Nat) (L : List Tp) (w : World) (hn : n ≤ 1000) (h : Hid (HV fTp w A n L)) :
    Calls Try.prog 25 #[.slice A n cap] w (GaveT 89 w L) := by
  obtain ⟨i0, hi0, hz0, hz1, hz2⟩ := info_parts info_rtop
  have hlen := h.out.1
  have hex : Hid (∀ k, k < n → ∃ x, L[k]? = some x) := Lib.hid (fun k hk => tp_at (by omega))
  have hend : Hid (L.take n = L) := Lib.hid (List.take_of_length_le (by omega))
  replace hlen := Lib.hid hlen
  have R0 := Lib.hid (own_nil (fm := fTp) 89 w w.heap.size)
  have B0 := Lib.hid (Below.refl w.heap.size w)
  obtain ⟨g, hg⟩ : ∃ g, w.heap.size = g := ⟨_, rfl⟩
  rw [hg] at R0 B0
  replace hg := Lib.hid hg
  have bld := Lib.hid build_rtop
  go_enter Try.func25, Try.ntmps25
  go_wp2_with fail
  go_loopw [3, 4] (fun u i wr => ∃ (k : Nat), i = .int .i64 k ∧ k ≤ n ∧ Hid (Own fTp 89 wr g u (L.take k)) ∧ Hid (Below g w wr)) (fun _ i _ => n - (intOf i).toNat)
  case atStart => exact ⟨0, rfl, by omega, by simpa using R0, B0⟩
  case round =>
    clear R0 B0
    obtain ⟨k, rfl, hk, hR, hB⟩ := hrel
    by_cases hlt : k < n
    · obtain ⟨x, hx⟩ := hex.out k hlt
      have HW := h.out.below (hg.out ▸ hB.out)
      obtain ⟨b, off, rfl, c0, c1, c2, c3, c4, c5⟩ := HW.atT hx
      have hnx := tp_next hx
      obtain ⟨xa, xb, xc, xd, xe, xf⟩ := x
      simp only at c0 c1 c2 c3 c4 c5
      have bld1 := bld.out xa xb xc xd xe xf
      have hw : g ≤ wr.heap.size := by rw [← hg.out]; exact hB.out.size
      have htl : (L.take k).length ≤ 1000 := by rw [List.length_take]; omega
      have d1 : decide ((k : Int) < (n : Int)) = true := decide_eq_true (by omega)
      have d1' : (k : Int) < (n : Int) := by omega
      replace hx := Lib.hid hx
      replace hnx := Lib.hid hnx
      have hblt : b < wr.heap.size := World.block_lt_of_cell? wr _ c0
      have hbg : b < g := by
        have := tp_lt h.out hx.out _ rfl
        rw [hg.out] at this
        exact this
      have hw0 : (fun W : World => W.cell? ⟨b, off + k * 6, none⟩ = some (.bool xa) ∧ W.cell? ⟨b, off + k * 6 + 1, none⟩ = some (.bool xb) ∧ W.cell? ⟨b, off + k * 6 + 2, none⟩ = some (.int .i64 xc) ∧ W.cell? ⟨b, off + k * 6 + 3, none⟩ = some (.int .i64 xd) ∧ W.cell? ⟨b, off + k * 6 + 4, none⟩ = some (.int .i64 xe) ∧ W.cell? ⟨b, off + k * 6 + 5, none⟩ = some (.int .i64 xf)) wr.drew := ⟨c0, c1, c2, c3, c4, c5⟩
      have LL : Hid (∀ X : World, X.heap[b]? = wr.heap[b]? → (fun W : World => W.cell? ⟨b, off + k * 6, none⟩ = some (.bool xa) ∧ W.cell? ⟨b, off + k * 6 + 1, none⟩ = some (.bool xb) ∧ W.cell? ⟨b, off + k * 6 + 2, none⟩ = some (.int .i64 xc) ∧ W.cell? ⟨b, off + k * 6 + 3, none⟩ = some (.int .i64 xd) ∧ W.cell? ⟨b, off + k * 6 + 4, none⟩ = some (.int .i64 xe) ∧ W.cell? ⟨b, off + k * 6 + 5, none⟩ = some (.int .i64 xf)) X) := Lib.hid (fun X e => ⟨(World.cell?_of_block (a := ⟨b, off + k * 6, none⟩) e).trans c0, (World.cell?_of_block (a := ⟨b, off + k * 6 + 1, none⟩) e).trans c1, (World.cell?_of_block (a := ⟨b, off + k * 6 + 2, none⟩) e).trans c2, (World.cell?_of_block (a := ⟨b, off + k * 6 + 3, none⟩) e).trans c3, (World.cell?_of_block (a := ⟨b, off + k * 6 + 4, none⟩) e).trans c4, (World.cell?_of_block (a := ⟨b, off + k * 6 + 5, none⟩) e).trans c5⟩)
      have hwa : ∀ o, (fun W : World => W.cell? ⟨b, off + k * 6, none⟩ = some (.bool xa) ∧ W.cell? ⟨b, off + k * 6 + 1, none⟩ = some (.bool xb) ∧ W.cell? ⟨b, off + k * 6 + 2, none⟩ = some (.int .i64 xc) ∧ W.cell? ⟨b, off + k * 6 + 3, none⟩ = some (.int .i64 xd) ∧ W.cell? ⟨b, off + k * 6 + 4, none⟩ = some (.int .i64 xe) ∧ W.cell? ⟨b, off + k * 6 + 5, none⟩ = some (.int .i64 xf)) ((wr.alloc o).drew) := fun o => LL.out _ (heap_alloc_old _ _ hblt)
      have hwb : ∀ o, (fun W : World => W.cell? ⟨b, off + k * 6, none⟩ = some (.bool xa) ∧ W.cell? ⟨b, off + k * 6 + 1, none⟩ = some (.bool xb) ∧ W.cell? ⟨b, off + k * 6 + 2, none⟩ = some (.int .i64 xc) ∧ W.cell? ⟨b, off + k * 6 + 3, none⟩ = some (.int .i64 xd) ∧ W.cell? ⟨b, off + k * 6 + 4, none⟩ = some (.int .i64 xe) ∧ W.cell? ⟨b, off + k * 6 + 5, none⟩ = some (.int .i64 xf)) (wr.drew.alloc o) := fun o => LL.out _ (heap_alloc_old wr.drew _ hblt)
      have q1 := Lib.hid (top_lit wr.drew xa xb xc xd xe xf 89)
      have O1 : Hid (Own fTp 89 (wr.alloc (.cells #[.bool xa, .bool xb, .int .i64 xc, .int .i64 xd, .int .i64 xe, .int .i64 xf] 89)).drew g u3 (L.take k)) := Lib.hid (Own.below (w := wr) hR.out (((Below.refl _ wr).alloc (Nat.le_refl _) _).drew))
      have sz3 : g ≤ (wr.alloc (.cells #[.bool xa, .bool xb, .int .i64 xc, .int .i64 xd, .int .i64 xe, .int .i64 xf] 89)).drew.heap.size := by
        have : (wr.alloc (.cells #[.bool xa, .bool xb, .int .i64 xc, .int .i64 xd, .int .i64 xe, .int .i64 xf] 89)).drew.heap.size = wr.heap.size + 1 := by simp
        omega
      have hz8 : ∀ w8, ((wr.alloc (.cells #[.bool xa, .bool xb, .int .i64 xc, .int .i64 xd, .int .i64 xe, .int .i64 xf] 89)).drew).grownBy w8 u3.ownBlock → (fun W : World => W.cell? ⟨b, off + k * 6, none⟩ = some (.bool xa) ∧ W.cell? ⟨b, off + k * 6 + 1, none⟩ = some (.bool xb) ∧ W.cell? ⟨b, off + k * 6 + 2, none⟩ = some (.int .i64 xc) ∧ W.cell? ⟨b, off + k * 6 + 3, none⟩ = some (.int .i64 xd) ∧ W.cell? ⟨b, off + k * 6 + 4, none⟩ = some (.int .i64 xe) ∧ W.cell? ⟨b, off + k * 6 + 5, none⟩ = some (.int .i64 xf)) w8 := fun w8 gr => LL.out _ ((gr.block b (by
          have : (wr.alloc (.cells #[.bool xa, .bool xb, .int .i64 xc, .int .i64 xd, .int .i64 xe, .int .i64 xf] 89)).drew.heap.size = wr.heap.size + 1 := by simp
          omega) (fun e => Nat.not_le_of_lt hbg (hR.out.lt _ e.symm).1)).trans (heap_alloc_old _ _ hblt))
      have c1' := Lib.hid ((hB.out.alloc hw (.cells #[.bool xa, .bool xb, .int .i64 xc, .int .i64 xd, .int .i64 xe, .int .i64 xf] 89)).drew)
      go_upto_region 5 with (fail)
      go_region_held3 (fun W : World => W.cell? ⟨b, off + k * 6, none⟩ = some (.bool xa) ∧ W.cell? ⟨b, off + k * 6 + 1, none⟩ = some (.bool xb) ∧ W.cell? ⟨b, off + k * 6 + 2, none⟩ = some (.int .i64 xc) ∧ W.cell? ⟨b, off + k * 6 + 3, none⟩ = some (.int .i64 xd) ∧ W.cell? ⟨b, off + k * 6 + 4, none⟩ = some (.int .i64 xe) ∧ W.cell? ⟨b, off + k * 6 + 5, none⟩ = some (.int .i64 xf)) (first | with_reducible assumption | with_reducible exact hw0 | with_reducible exact hwa _ | with_reducible exact hwb _ | with_reducible exact z8)
        ((refine step_onto_g (fm := fTp) (T := 89) (w := (wr.alloc (.cells #[.bool xa, .bool xb, .int .i64 xc, .int .i64 xd, .int .i64 xe, .int .i64 xf] 89)).drew) (by rfl) (.tmp 11) (.tmp 28) 59 (by rfl) g i0 (.agg #[.bool false, .bool false, .int .i64 0, .int .i64 0, .int .i64 0, .int .i64 0]) 40 Try.underlying59 hi0 hz0 hz1 hz2 rfl (by omega) u3 (L.take k) (by rfl) O1.out (some ⟨wr.heap.size, 0, none⟩) 1 1 [⟨xa, xb, xc, xd, xe, xf⟩] (by rfl) q1.out (fun e => by cases e) (by omega) sz3 ?_
          intro v8 w8 r8 gr8 at8; have z8 := hz8 w8 gr8))
      rw [← hnx.out] at r8
      have B8 := Lib.hid (c1'.out.grown gr8 sz3 (fun q hq => (hR.out.lt q hq).1))
      replace r8 := Lib.hid r8
      clear gr8 at8 hz8 hwa hwb hw0 z8
      go_wp2_with fail
      go_roundw
      case rel => exact ⟨k + 1, by go_num, by omega, r8, B8⟩
      case measure => simp [intOf]; omega
    · obtain rfl : k = n := by omega
      have d1 : decide ((k : Int) < (k : Int)) = false := by simp
      rw [hend.out] at hR
      go_wp2_with fail
      go_ret
      exact ⟨_, rfl, by rw [hg.out]; exact hR.out, by rw [hg.out]; exact hB.out⟩
end Go.Proofs.Ytdeofifidjbolaa
