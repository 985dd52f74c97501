/-
  Which blocks a call may have turned; bytes.Clone, appendNumber and number, of the program.
-/
import Derived.Test.YtjhfgajhmenboaaDoorRefReader3
import Derived.Lib.SliceRun
namespace Go.Proofs.YtjhfgajhmenboaaDoor
open Go.RowKit
set_option linter.unusedVariables false
set_option linter.unusedSimpArgs false

/-- All blocks stand as they stood but those that p names; the streams are as they were; no block has gone. -/
structure Only (p : Nat → Prop) (w w' : World) : Prop where
  os : w'.os = w.os
  tape : w'.tape = w.tape
  output : w'.output = w.output
  size : w.heap.size ≤ w'.heap.size
  block : ∀ k, k < w.heap.size → ¬ p k → w'.heap[k]? = w.heap[k]?
theorem Only.refl (p : Nat → Prop) (w : World) : Only p w w := ⟨rfl, rfl, rfl, Nat.le_refl _, fun _ _ _ => rfl⟩
theorem Only.trans {p : Nat → Prop} {a b c : World} (h : Only p a b) (k : Only p b c) : Only p a c :=
  ⟨k.os.trans h.os, k.tape.trans h.tape, k.output.trans h.output, Nat.le_trans h.size k.size, fun i hi hp => (k.block i (Nat.lt_of_lt_of_le hi h.size) hp).trans (h.block i hi hp)⟩
/-- What is turned may be new, or named. -/
theorem Only.step {p q : Nat → Prop} {a b c : World} (h : Only p a b) (k : Only q b c) (hq : ∀ i, i < a.heap.size → q i → p i) : Only p a c :=
  ⟨k.os.trans h.os, k.tape.trans h.tape, k.output.trans h.output, Nat.le_trans h.size k.size, fun i hi hp => (k.block i (Nat.lt_of_lt_of_le hi h.size) (fun e => hp (hq i hi e))).trans (h.block i hi hp)⟩
theorem only_grown {w w' : World} {row : Option Nat} (h : w.grownBy w' row) : Only (fun k => some k = row) w w' := ⟨h.os, h.tape, h.output, h.size, fun k hk hp => h.block k hk hp⟩
theorem only_below {w w' : World} (h : Below w.heap.size w w') : Only (fun _ => False) w w' := ⟨h.os, h.tape, h.output, h.size, fun k hk _ => h.block k hk⟩
theorem Only.below {p : Nat → Prop} {B : Nat} {w w' : World} (h : Only p w w') (hB : B ≤ w.heap.size) (hp : ∀ k, k < B → ¬ p k) : Below B w w' := ⟨h.os, h.tape, h.output, h.size, fun k hk => h.block k (by omega) (hp k hk)⟩
theorem Only.drewN {p : Nat → Prop} {a w : World} (h : Only p a w) (q : Nat) : Only p a (w.drewN q) := ⟨h.os, h.tape, h.output, h.size, h.block⟩
theorem Only.mono {p q : Nat → Prop} {w w' : World} (h : Only p w w') (hpq : ∀ k, k < w.heap.size → p k → q k) : Only q w w' := ⟨h.os, h.tape, h.output, h.size, fun k hk hn => h.block k hk (fun e => hn (hpq k hk e))⟩
theorem Only.cell {p : Nat → Prop} {w w' : World} (h : Only p w w') {a : Addr} {v : Value} (hc : w.cell? a = some v) (hn : ¬ p a.block) : w'.cell? a = some v :=
  (World.cell?_of_block (h.block a.block (World.block_lt_of_cell? w a hc) hn)).trans hc
theorem HB.only {p : Nat → Prop} {w w' : World} {A : Option Addr} {n : Nat} {l : List UInt8} (h : HB w A n l) (ho : Only p w w') (hn : ∀ b off sp, A = some ⟨b, off, sp⟩ → ¬ p b) : HB w' A n l := by
  refine ⟨h.1, fun h0 => ?_⟩
  obtain ⟨b, off, e, hc⟩ := h.2 h0
  exact ⟨b, off, e, fun k hk => ho.cell (hc k hk) (hn b off none e)⟩
theorem RB.only {p : Nat → Prop} {w w' : World} {base : Nat} {v : Value} {l : List UInt8} (h : RB w base v l) (ho : Only p w w') (hn : ∀ k, v.ownBlock = some k → ¬ p k) : RB w' base v l := by
  refine ⟨h.1, ?_⟩
  rcases h.2 with h | ⟨g, cap, cur, rfl, h2, h3, h4⟩
  · exact .inl h
  · have hg : g < w.heap.size := (Array.getElem?_eq_some_iff.1 h3).1
    exact .inr ⟨g, cap, cur, rfl, h2, (ho.block g hg (hn g rfl)).trans h3, h4⟩
theorem RB.base {w : World} {base base' : Nat} {v : Value} {l : List UInt8} (h : RB w base v l) (hb : base' ≤ base) : RB w base' v l := by
  refine ⟨h.1, ?_⟩
  rcases h.2 with h | ⟨g, cap, cur, rfl, h2, h3⟩
  · exact .inl h
  · exact .inr ⟨g, cap, cur, rfl, by omega, h3⟩
theorem RB.blk {w : World} {base : Nat} {v : Value} {l : List UInt8} (h : RB w base v l) {k : Nat} (hk : v.ownBlock = some k) : base ≤ k ∧ k < w.heap.size := World.ownsRow.lt h k hk

set_option maxRecDepth 100000 in
set_option maxHeartbeats 1000000 in
theorem BClone_at (ad : Addr) (n cap : Nat) (l : List UInt8) (w : World) (hn : n ≤ 140737488355328) (h : Hid (HB w (some ad) n l)) :
    Calls Tryd.prog 41 #[.slice (some ad) n cap] w fun e w' => ∃ v, e = .returned v ∧ RB w' w.heap.size v l ∧ Below w.heap.size w w' := by
  obtain ⟨i0, hi0, hz0, hz1, hz2⟩ := info_parts info_u8
  have R0 := Lib.hid (rb_empty w)
  have HA := Lib.hid (h.out.alloc (.cells #[] 5))
  have q22 : ∀ (w : World) (a : Option Addr) (n c n' c' : Nat), (binOp .eql 26 (.slice a n c) (.slice none n' c')).run Tryd.prog w = .ok (.bool a.isNone) w := fun w a n c n' c' => Lib.run_eql_slice_nil w _ _ a n c n' c' Tryd.underlying26
  go_enter Tryd.func41, Tryd.ntmps41
  go_wp2_with (at_builtin; refine wpList_onto_b (by rfl) (.tmp 5) (.tmp 6) 26 (by rfl) w.heap.size i0 Tryd.underlying26 hi0 hz0 hz1 hz2 _ _ (by rfl) R0.out (some ad) n cap l (by rfl) HA.out (fun e => by cases e) ?c1 ?c2 ?_)
  case c1 => simp; omega
  case c2 => simp
  intro r1 w1 h1 g1 _
  have b1 := Lib.hid (RB.below ((Below.refl _ w).alloc (Nat.le_refl _) _) R0.out g1)
  have h1 := Lib.hid h1
  clear g1
  go_wp2_with fail
  go_ret
  exact ⟨r1, rfl, h1.out, b1.out⟩
set_option maxRecDepth 100000 in
theorem BClone_nil (n cap : Nat) (w : World) :
    Calls Tryd.prog 41 #[.slice none n cap] w fun e w' => e = .returned (.slice none 0 0) ∧ w' = w := by
  have q22 : ∀ (w : World) (a : Option Addr) (n c n' c' : Nat), (binOp .eql 26 (.slice a n c) (.slice none n' c')).run Tryd.prog w = .ok (.bool a.isNone) w := fun w a n c n' c' => Lib.run_eql_slice_nil w _ _ a n c n' c' Tryd.underlying26
  go_enter Tryd.func41, Tryd.ntmps41
  go_wp2
  go_ret
  exact ⟨rfl, rfl⟩
theorem BClone_any (A : Option Addr) (n cap : Nat) (l : List UInt8) (w : World) (hn : n ≤ 140737488355328) (h : Hid (HB w A n l)) :
    Calls Tryd.prog 41 #[.slice A n cap] w fun e w' => ∃ v, e = .returned v ∧ RB w' w.heap.size v l ∧ Below w.heap.size w w' := by
  cases A with
  | some ad => exact BClone_at ad n cap l w hn h
  | none =>
    have e : l = [] := by
      refine List.eq_nil_of_length_eq_zero ?_
      by_cases h0 : 0 < n
      · obtain ⟨b, off, e, _⟩ := h.out.2 h0; cases e
      · have := h.out.1; omega
    subst e
    refine (BClone_nil n cap w).mono ?_
    rintro e w' ⟨rfl, rfl⟩
    exact ⟨_, rfl, rb_nil _ _, Below.refl _ _⟩
end Go.Proofs.YtjhfgajhmenboaaDoor
