/-
  Contracts: NewWriter; Byte, Long, Text and Done of the Writer.
-/
import Derived.Test.YtjhfgajhmenboaaDoorOntoStr
namespace Go.Proofs.YtjhfgajhmenboaaDoor
open Go.RowKit
set_option linter.unusedVariables false
set_option linter.unusedSimpArgs false

/-- The writer in block c, with this slice. -/
def WAt (c : Nat) (v : Value) (w : World) : Prop := w.heap[c]? = some (.cells #[v] 79 (0, 0))
theorem WAt.cells {c : Nat} {v : Value} {w : World} (h : WAt c v w) : w.cell? ⟨c, 0, none⟩ = some v ∧ w.frozen? ⟨c, 0, none⟩ = false :=
  ⟨by rw [Lib.cell_of_heap h]; rfl, Lib.frozen_of_heap h 0⟩
theorem WAt.lt {c : Nat} {v : Value} {w : World} (h : WAt c v w) : c < w.heap.size := (Array.getElem?_eq_some_iff.1 h).1
theorem WAt.set {c : Nat} {v v' : Value} {w : World} (h : WAt c v w) : WAt c v' (w.setCell ⟨c, 0, none⟩ v') ∧ w.grownBy (w.setCell ⟨c, 0, none⟩ v') (some c) := by
  refine ⟨?_, ⟨rfl, rfl, rfl, by simp, fun j _ hj => heap_setCell_other w ⟨c, 0, none⟩ j _ (fun e => hj (by simp [e]))⟩⟩
  unfold WAt
  rw [heap_setCell_same w c 0 _ _ _ h]
  rfl
/-- The writer in block c holds these bytes, in a row of the call's own. -/
structure Wr (c B : Nat) (v : Value) (xs : List UInt8) (w : World) : Prop where
  at' : WAt c v w
  row : RB w B v xs
  far : ∀ k, v.ownBlock = some k → k ≠ c
  base : B ≤ c
  size : B ≤ w.heap.size
theorem Wr.only {p : Nat → Prop} {c B : Nat} {v : Value} {xs : List UInt8} {w w' : World} (h : Wr c B v xs w) (ho : Only p w w') (hc : ¬ p c) (hv : ∀ k, v.ownBlock = some k → ¬ p k) : Wr c B v xs w' :=
  ⟨(ho.block c h.at'.lt hc).trans h.at', h.row.only ho hv, h.far, h.base, Nat.le_trans h.size ho.size⟩
theorem Wr.below {c B : Nat} {v : Value} {xs : List UInt8} {w w' : World} (h : Wr c B v xs w) (hb : Below w.heap.size w w') : Wr c B v xs w' := h.only (only_below hb) (fun e => e) (fun _ _ e => e)
/-- What a writer's call may turn. -/
def wp (c : Nat) (v : Value) : Nat → Prop := fun k => k = c ∨ some k = v.ownBlock
theorem Wr.next {c B : Nat} {v v' : Value} {xs ys : List UInt8} {w w1 : World} (h : Wr c B v xs w) (hr : RB w1 B v' ys) (ho : Only (fun k => some k = v.ownBlock) w w1) (hf : From w v v') :
    Wr c B v' ys (w1.setCell ⟨c, 0, none⟩ v') ∧ Only (wp c v) w (w1.setCell ⟨c, 0, none⟩ v') ∧ From w v v' := by
  have hc1 : ¬ (some c = v.ownBlock) := fun e => h.far c e.symm rfl
  have hat1 : WAt c v w1 := (ho.block c h.at'.lt hc1).trans h.at'
  have hfar : ∀ k, v'.ownBlock = some k → k ≠ c := by
    intro k hk
    rcases hf k hk with e | e
    · exact h.far k e
    · have := h.at'.lt; omega
  obtain ⟨s1, s2⟩ := hat1.set (v' := v')
  have o2 := only_grown s2
  refine ⟨⟨s1, hr.only o2 (fun k hk e => hfar k hk (by injection e)), hfar, h.base, ?_⟩, ?_, hf⟩
  · have := h.size; have := ho.size; have := o2.size; omega
  · exact (ho.mono (fun k _ e => .inr e)).step o2 (fun i hi e => .inl (by injection e))

set_option maxRecDepth 100000 in
set_option maxHeartbeats 1000000 in
theorem NewWriter_any (w : World) :
    Calls Tryd.prog 24 #[] w fun e w' => e = .returned (.pointer (some ⟨w.heap.size, 0, none⟩)) ∧ Wr w.heap.size w.heap.size (.slice none 0 0) [] w' ∧ Below w.heap.size w w' := by
  go_enter Tryd.func24, Tryd.ntmps24
  go_wp2_with fail
  go_ret
  refine ⟨rfl, ⟨heap_alloc_new w _, rb_nil _ _, (fun k e => by cases e), Nat.le_refl _, by simp⟩, (Below.refl _ w).alloc (Nat.le_refl _) _⟩

set_option maxRecDepth 100000 in
set_option maxHeartbeats 1000000 in
theorem WByte_any (c B : Nat) (v : Value) (xs : List UInt8) (n : Int) (w : World) (h : Hid (Wr c B v xs w)) (hl : xs.length ≤ 140000000000000) (n1 : -9223372036854775808 ≤ n) (n2 : n ≤ 9223372036854775807) :
    Calls Tryd.prog 25 #[.pointer (some ⟨c, 0, none⟩), .int .i64 n] w fun e w' => e = .returned (.tuple #[]) ∧ ∃ v', Wr c B v' (xs ++ [byteOf n]) w' ∧ Only (wp c v) w w' ∧ From w v v' := by
  obtain ⟨i0, hi0, hz0, hz1, hz2⟩ := info_parts info_u8
  obtain ⟨c0, f0⟩ := h.out.at'.cells
  have hv := byteOf_nat n
  obtain ⟨x, ex⟩ : ∃ x, byteOf n = x := ⟨_, rfl⟩
  rw [ex] at hv ⊢
  have hv2 := hv.symm
  clear hv ex
  have R0 := Lib.hid (h.out.row.alloc (.cells #[.int .u8 x.toNat] 5))
  have S1 := Lib.hid (hb_one w x)
  have hB := Lib.hid h.out.size
  have O0 := Lib.hid ((Only.refl (fun k => some k = v.ownBlock) w).alloc (.cells #[.int .u8 x.toNat] 5))
  go_enter Tryd.func25, Tryd.ntmps25
  go_wp2_with (at_builtin; refine wpList_onto_b (by rfl) (.tmp 8) (.tmp 11) 26 (by rfl) B i0 Tryd.underlying26 hi0 hz0 hz1 hz2 _ _ (by rfl) R0.out _ 1 1 _ (by rfl) S1.out (fun e => by cases e) (by omega) (by have := hB.out; simp; omega) ?_)
  intro r2 w2 h2 g2 o2
  have F2 : Hid (From w v r2) := Lib.hid (from_step (From.refl w v) O0.out.size (by simpa using o2))
  have O2 := Lib.hid (O0.out.trans (only_grown g2 |>.mono (fun k _ e => e)))
  have hat : WAt c v w2 := (O2.out.block c h.out.at'.lt (fun e => h.out.far c e.symm rfl)).trans h.out.at'
  obtain ⟨c2, f2⟩ := hat.cells
  have fin := Lib.hid (h.out.next h2 O2.out F2.out)
  obtain ⟨A2, cap2, e2, _, _, _, _⟩ := h2.holds
  obtain ⟨len, el⟩ : ∃ len, (xs ++ [x]).length = len := ⟨_, rfl⟩
  rw [el] at e2
  subst e2
  clear g2 o2 h2 hat el
  go_wp2_with fail
  go_end0
  obtain ⟨f1, f2, f3⟩ := fin.out
  exact ⟨rfl, _, f1, f2, f3⟩

theorem longTo_eight (n : Int) : longTo (bits64 n) 8 = longL n := rfl
theorem bits64_lt (n : Int) : bits64 n < 18446744073709551616 := by
  have := Int.emod_lt_of_pos n (show (0 : Int) < 18446744073709551616 by omega)
  have := Int.emod_nonneg n (show (18446744073709551616 : Int) ≠ 0 by omega)
  unfold bits64; omega
set_option maxRecDepth 100000 in
set_option maxHeartbeats 1000000 in
theorem WLong_any (c B : Nat) (v : Value) (xs : List UInt8) (n : Int) (w : World) (h : Hid (Wr c B v xs w)) (hl : xs.length ≤ 140000000000000) (n1 : -9223372036854775808 ≤ n) (n2 : n ≤ 9223372036854775807) :
    Calls Tryd.prog 26 #[.pointer (some ⟨c, 0, none⟩), .int .i64 n] w fun e w' => e = .returned (.tuple #[]) ∧ ∃ v', Wr c B v' (xs ++ longL n) w' ∧ Only (wp c v) w w' ∧ From w v v' := by
  obtain ⟨c0, f0⟩ := h.out.at'.cells
  have hU := bits64_lt n
  have hu := bits64_wrap n
  rw [← longTo_eight]
  obtain ⟨U, eU⟩ : ∃ U, bits64 n = U := ⟨_, rfl⟩
  rw [eU] at hU hu ⊢
  have hN := AppendNumber_any B v xs U 8 w (Lib.hid h.out.row) hl (by omega) hU h.out.size
  have hN := Lib.hid hN
  clear eU
  go_enter Tryd.func26, Tryd.ntmps26
  go_wp2_with fail
  refine hN.out.mono ?_
  rintro e w2 ⟨r2, rfl, h2, O2, F2⟩
  have hat : WAt c v w2 := (O2.block c h.out.at'.lt (fun e => h.out.far c e.symm rfl)).trans h.out.at'
  obtain ⟨c2, f2⟩ := hat.cells
  have fin := Lib.hid (h.out.next h2 O2 F2)
  obtain ⟨A2, cap2, e2, _, _, _, _⟩ := h2.holds
  obtain ⟨len, el⟩ : ∃ len, (xs ++ longTo U 8).length = len := ⟨_, rfl⟩
  rw [el] at e2
  subst e2
  clear h2 hat el O2 F2
  go_wp2_with fail
  go_end0
  obtain ⟨f1, f2, f3⟩ := fin.out
  exact ⟨rfl, _, f1, f2, f3⟩

set_option maxRecDepth 100000 in
set_option maxHeartbeats 1000000 in
theorem Done_any (c B : Nat) (v : Value) (xs : List UInt8) (w : World) (h : Hid (Wr c B v xs w)) (hl : xs.length ≤ 140000000000000) :
    Calls Tryd.prog 27 #[.pointer (some ⟨c, 0, none⟩)] w fun e w' => ∃ r, e = .returned r ∧ RB w' w.heap.size r xs ∧ Below w.heap.size w w' := by
  obtain ⟨c0, f0⟩ := h.out.at'.cells
  obtain ⟨A, cap, e, H, _, _, _⟩ := h.out.row.holds
  have hC := BClone_any A xs.length cap xs w (by omega) (Lib.hid H)
  obtain ⟨len, el⟩ : ∃ len, xs.length = len := ⟨_, rfl⟩
  rw [el] at e hC
  subst e
  have hC := Lib.hid hC
  clear H el
  go_enter Tryd.func27, Tryd.ntmps27
  go_wp2_with fail
  refine hC.out.mono ?_
  rintro e w1 ⟨r, rfl, r1, b1⟩
  have r1 := Lib.hid r1
  have b1 := Lib.hid b1
  go_wp2_with fail
  go_ret
  exact ⟨r, rfl, r1.out, b1.out⟩

theorem from_trans {w w1 : World} {v v1 v2 : Value} (h1 : From w v v1) (hs : w.heap.size ≤ w1.heap.size) (h2 : From w1 v1 v2) : From w v v2 := by
  intro k hk
  rcases h2 k hk with e | e
  · exact h1 k e
  · right; omega
theorem wp_from {c B : Nat} {v v1 : Value} {xs : List UInt8} {w : World} (h : Wr c B v xs w) (hf : From w v v1) : ∀ i, i < w.heap.size → wp c v1 i → wp c v i := by
  intro i hi e
  rcases e with e | e
  · exact .inl e
  · rcases hf i e.symm with e | e
    · exact .inr e.symm
    · omega
end Go.Proofs.YtjhfgajhmenboaaDoor
