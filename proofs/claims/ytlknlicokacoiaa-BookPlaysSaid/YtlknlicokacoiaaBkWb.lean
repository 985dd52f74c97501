/-
  The whole book in memory: the arena and the book's own blocks. What a slot's reading tells.
-/
import Derived.Test.YtlknlicokacoiaaBkGet
import Derived.Test.YtlknlicokacoiaaLvOpen
namespace Go.Proofs.Ytlknlicokacoiaa
open Go.RowKit
set_option linter.unusedVariables false
set_option linter.unusedSimpArgs false

structure Wb (B b a : Nat) (F : Nat → Prop) (V : Nat → Value) (vs : Value) (c : Cs) (w : World) : Prop where
  ar : AR B a F c.st w
  bm : Bm b a V vs c.R c.T c.S w
  far : ∀ k, F k → ¬ bfoot b V vs k
  lo : ∀ k, bfoot b V vs k → B ≤ k
def wfoot (b : Nat) (F : Nat → Prop) (V : Nat → Value) (vs : Value) (k : Nat) : Prop := F k ∨ bfoot b V vs k
section
variable {B b a : Nat} {F : Nat → Prop} {V : Nat → Value} {vs : Value} {c : Cs} {w w' : World}
theorem Wb.lt (h : Wb B b a F V vs c w) {k : Nat} (hk : wfoot b F V vs k) : B ≤ k ∧ k < w.heap.size := by
  rcases hk with hk | hk
  · exact h.ar.lt hk
  · exact ⟨h.lo k hk, h.bm.lt hk⟩
theorem Wb.only {p : Nat → Prop} (h : Wb B b a F V vs c w) (ho : Only p w w') (hp : ∀ k, wfoot b F V vs k → ¬ p k) : Wb B b a F V vs c w' :=
  ⟨h.ar.only ho (fun k hk => hp k (.inl hk)), h.bm.only ho (fun k hk => hp k (.inr hk)), h.far, h.lo⟩
theorem Wb.below (h : Wb B b a F V vs c w) (hb : Below w.heap.size w w') : Wb B b a F V vs c w' := h.only (only_below hb) (fun _ _ e => e)
theorem only_above {D : Nat} (h : Below D w w') : Only (fun k => D ≤ k) w w' := ⟨h.os, h.tape, h.output, h.size, fun k _ hn => h.block k (by omega)⟩
theorem Wb.after (h : Wb B b a F V vs c w) {D : Nat} (hb : Below D w w') (hD : ∀ k, wfoot b F V vs k → k < D) : Wb B b a F V vs c w' := h.only (only_above hb) (fun k hk e => by have := hD k hk; omega)
theorem Wb.size (h : Wb B b a F V vs c w) : B ≤ w.heap.size := by
  have := h.lt (.inr (.inl rfl)); omega
end
/-- What Get tells of a slot. -/
theorem getO_some {st : St} {slot : Int} {e : En} (h : getO st slot = (e, true)) : ∃ (q : Nat) (A C : List En), st.Q[q]? = some (A ++ e :: C) ∧ (e.s : Int) = slot := by
  unfold getO at h
  cases hf : findQ slot st.Q 0 with
  | none => rw [hf] at h; cases h
  | some t =>
    obtain ⟨q, A, x, C⟩ := t
    rw [hf] at h
    injection h with h _
    subst h
    obtain ⟨j, e1, e2, e3⟩ := findQ_some hf
    exact ⟨j, A, C, e2, e3⟩
theorem getO_none {st : St} {slot : Int} {e : En} (h : getO st slot = (e, false)) : e = zeroE ∧ ∀ (q : Nat) (l : List En), st.Q[q]? = some l → ∀ x ∈ l, (x.s : Int) ≠ slot := by
  unfold getO at h
  cases hf : findQ slot st.Q 0 with
  | none => rw [hf] at h; injection h with h _; exact ⟨h.symm, fun q l hl x hx => findQ_none hf q l hl x hx⟩
  | some t => obtain ⟨q, A, x, C⟩ := t; rw [hf] at h; injection h with _ h; cases h
/-- The order of this ID in the arena, as entry finds it. -/
def EntryIs (st : St) (i : Int) (e : En) (ok : Bool) : Prop :=
  (ok = true ∧ e.i = i ∧ ∃ (q : Nat) (A C : List En), st.Q[q]? = some (A ++ e :: C)) ∨ (ok = false ∧ e = zeroE ∧ ∀ (q : Nat) (l : List En), st.Q[q]? = some l → ∀ x ∈ l, x.i ≠ i)
end Go.Proofs.Ytlknlicokacoiaa
