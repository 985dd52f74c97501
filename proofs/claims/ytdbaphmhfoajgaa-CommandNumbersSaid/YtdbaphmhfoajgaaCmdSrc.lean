/-
  A slice of bytes, as a reader of the document needs it.
-/
import Derived.Test.YtdbaphmhfoajgaaCmdRead
namespace Go.Proofs.Ytdbaphmhfoajgaa
open Go.RowKit
set_option linter.unusedVariables false
set_option linter.unusedSimpArgs false

/-- A slice of bytes, as a reader of the document needs it. -/
structure Src (w : World) (A : Option Addr) (n cap : Nat) (l : List UInt8) : Prop where
  hb : HB w A n l
  at' : ∀ ad, A = some ad → ad.block < w.heap.size ∧ ad.spot = none
  ncap : n ≤ cap
  cmax : cap ≤ 9223372036854775807
  nmax : n ≤ 140737488355328
  none0 : A = none → cap = 0
theorem Src.below {w w' : World} {A : Option Addr} {n cap : Nat} {l : List UInt8} (h : Src w A n cap l) (hb : Below w.heap.size w w') : Src w' A n cap l :=
  ⟨h.hb.below hb, fun ad e => ⟨Nat.lt_of_lt_of_le (h.at' ad e).1 hb.size, (h.at' ad e).2⟩, h.ncap, h.cmax, h.nmax, h.none0⟩
/-- A row of the call's own is such a slice. -/
theorem RB.src {w : World} {base : Nat} {v : Value} {l : List UInt8} (h : RB w base v l) (hl : l.length ≤ 140737488355328) : ∃ A n cap, v = .slice A n cap ∧ n = l.length ∧ Src w A n cap l := by
  obtain ⟨A, cap, rfl, H, hA, hc1, hc2⟩ := h.holds
  refine ⟨A, l.length, cap, rfl, rfl, H, ?_, hc2, by simp only [maxLen] at hc1; omega, hl, hA⟩
  intro ad e
  rcases h.2 with ⟨e1, e2⟩ | ⟨g, cap', cur, e1, hg, hcur, _⟩
  · injection e1 with e1 _ _; rw [e] at e1; cases e1
  · injection e1 with e1 _ _
    rw [e] at e1
    injection e1 with e1
    subst e1
    exact ⟨(Array.getElem?_eq_some_iff.1 hcur).1, rfl⟩
theorem src_nil (w : World) : Src w none 0 0 [] := ⟨hb_nil _ _, (fun ad e => by cases e), Nat.le_refl _, by omega, by omega, fun _ => rfl⟩
theorem num_le {l : List UInt8} {k y m : Nat} (h : y ≤ 1000) : (rdTake l k y m).2.2 ≤ 1000 := by
  rcases rdTake_num l k y m with e | e <;> omega
theorem text_le {l : List UInt8} {k y : Nat} (h : y ≤ 1000) : (rdText l k y).2.2 ≤ 1000 := num_le (num_le h)
end Go.Proofs.Ytdbaphmhfoajgaa
