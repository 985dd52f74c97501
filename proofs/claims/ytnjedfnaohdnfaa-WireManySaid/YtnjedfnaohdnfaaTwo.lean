/-
  Both readers are made.
-/
import Derived.Test.YtnjedfnaohdnfaaGet
import Derived.Test.YtnjedfnaohdnfaaNewReader
namespace Go.Proofs.Ytnjedfnaohdnfaa
open Go.RowKit
set_option linter.unusedVariables false
set_option linter.unusedSimpArgs false

theorem below_up {a w w' : World} (h : Below a.heap.size a w) (hk : Below w.heap.size w w') : Below a.heap.size a w' := h.trans (hk.mono h.size)
theorem two_made {c g n cap : Nat} {A : Option Addr} {l : List UInt8} {w w1 : World} (hA : HB w A n l) (hn : n ≤ cap) (hcap : cap ≤ 9223372036854775807) (hnl : n ≤ 140737488355328) (hnone : A = none → cap = 0)
    (hpl : ∀ ad, A = some ad → ad.spot = none ∧ ad.block < w.heap.size) (hP : PR c g l 0 0 w1) (hg : w.heap.size ≤ g) (hgc : g ≤ c) (hb : Below w.heap.size w w1) :
    Two c g w1.heap.size A n cap l 0 0 (w1.alloc (.cells #[.slice A n cap, .int .i64 0, .int .i64 0] 33)) := by
  have hc := hP.lt
  have hs := hb.size
  refine ⟨hP.only (only_below ((Below.refl _ w1).alloc (Nat.le_refl _) _)) (fun e => e) (fun e => e), ⟨heap_alloc_new w1 _, (hA.below hb).alloc _, ?_, Nat.zero_le _, hn, hcap, hnl, hnone, fun ad e => (hpl ad e).1⟩, by omega, by omega, ?_⟩
  · intro b off sp e
    have : b < w.heap.size := (hpl _ e).2
    omega
  · intro b off sp e
    have : b < w.heap.size := (hpl _ e).2
    omega
/-- What a get leaves is still below. -/
theorem only_pq_below {c c2 : Nat} {a w w' : World} (h : Below a.heap.size a w) (ho : Only (pq c c2) w w') (hc : a.heap.size ≤ c) (hc2 : a.heap.size ≤ c2) : Below a.heap.size a w' :=
  h.trans (ho.below h.size (fun k hk e => by rcases e with e | e <;> omega))
end Go.Proofs.Ytnjedfnaohdnfaa
