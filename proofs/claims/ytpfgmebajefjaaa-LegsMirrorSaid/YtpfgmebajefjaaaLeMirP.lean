/-
  Rows of numbers, by the same general laws; settled prices turned about 0.
-/
import Derived.Test.YtpfgmebajefjaaaRowsG
import Derived.Test.YtpfgmebajefjaaaNum
import Derived.Test.YtpfgmebajefjaaaLeFacts
namespace Go.Proofs.Ytpfgmebajefjaaa
open Go.RowKit
set_option linter.unusedVariables false
set_option linter.unusedSimpArgs false

def fI : Fmt Int := ⟨fun x => [.int .i64 x], 1, fun _ => rfl, by decide, fun x u hu => by
  simp only [List.mem_cons, List.not_mem_nil, or_false] at hu
  rw [hu]; rfl⟩
theorem HV.nums {w : World} {A : Option Addr} {n : Nat} {xs : List Int} (h : HV fI w A n xs) (hx : ∀ x ∈ xs, I64 x) : Nums w A n (fun j => xs.getD j 0) := by
  intro j hj
  have hl := h.1
  have hg : xs[j]? = some (xs.getD j 0) := by rw [List.getD_eq_getElem?_getD, List.getElem?_eq_getElem (by omega)]; rfl
  obtain ⟨b, off, e, hc⟩ := h.2 j _ hg
  have c0 := hc 0 _ rfl
  have hI := hx _ (List.mem_of_getElem? hg)
  exact ⟨b, off, e, by rw [show off + j * fI.k + 0 = off + j from by show off + j * 1 + 0 = _; omega] at c0; exact c0, hI.1, hI.2⟩
theorem i_lit (w : World) (x : Int) (T : TypeId) : HV fI (w.alloc (.cells #[.int .i64 x] T)) (some ⟨w.heap.size, 0, none⟩) 1 [x] := by
  refine ⟨rfl, fun j y hy => ⟨w.heap.size, 0, rfl, fun m u hu => ?_⟩⟩
  have hj : j = 0 := by have := (List.getElem?_eq_some_iff.1 hy).1; simpa using this
  subst hj
  have hy : x = y := by simpa using hy
  subst hy
  rw [show 0 + 0 * fI.k + m = m by omega, Lib.cell_of_heap (heap_alloc_new w _), ← hu, ← Array.getElem?_toList]
  rfl
/-- The first i settled prices, turned about 0. -/
def negS (R : Nat → Int) (i : Nat) : List Int := (List.range i).map (fun j => -R j)
theorem negS_succ (R : Nat → Int) (i : Nat) : negS R (i + 1) = negS R i ++ [-R i] := by unfold negS; rw [List.range_succ, List.map_append]; rfl
theorem negS_len (R : Nat → Int) (i : Nat) : (negS R i).length = i := by simp [negS]
theorem negS_get {R : Nat → Int} {i j : Nat} (h : j < i) : (negS R i).getD j 0 = -R j := by
  unfold negS
  rw [List.getD_eq_getElem?_getD, List.getElem?_map, List.getElem?_range h]; rfl
theorem nums_same {w : World} {A : Option Addr} {n : Nat} {N M : Nat → Int} (h : Nums w A n N) (e : ∀ j, j < n → N j = M j) : Nums w A n M := fun j hj => by
  obtain ⟨b, off, e1, h1, h2⟩ := h j hj
  exact ⟨b, off, e1, by rw [← e j hj]; exact h1, by rw [← e j hj]; exact h2⟩
end Go.Proofs.Ytpfgmebajefjaaa
