/-
  Contract: NewReader.
-/
import Derived.Test.YtjhfgajhmenboaaDoorReader
namespace Go.Proofs.YtjhfgajhmenboaaDoor
open Go.RowKit
set_option linter.unusedVariables false
set_option linter.unusedSimpArgs false

set_option maxRecDepth 100000 in
set_option maxHeartbeats 1000000 in
theorem NewReader_any (A : Option Addr) (n cap : Nat) (l : List UInt8) (w : World) (hn : n ≤ 140737488355328) (h : Hid (HB w A n l)) :
    Calls Tryd.prog 36 #[.slice A n cap] w fun e w' => ∃ c g, e = .returned (.pointer (some ⟨c, 0, none⟩)) ∧ PR c g l 0 0 w' ∧ w.heap.size ≤ g ∧ g ≤ c ∧ Below w.heap.size w w' := by
  have hl := Lib.hid h.out.1
  go_enter Tryd.func36, Tryd.ntmps36
  go_wp2_with fail
  refine (BClone_any A n cap l w hn h).mono ?_
  rintro e w1 ⟨v, rfl, r1, b1⟩
  obtain ⟨A1, c1, rfl, H1, hA1, hc1, hc2⟩ := r1.holds
  have r1 := Lib.hid r1
  have b1 := Lib.hid b1
  have H1 := Lib.hid H1
  go_wp2_with fail
  go_ret
  have hs : w.heap.size ≤ w1.heap.size := b1.out.size
  have hbb := b1.out.alloc hs (Obj.cells #[Value.slice A1 l.length c1, Value.bool false] 89)
  have hat : PAt w1.heap.size A1 l.length c1 false (w1.alloc (Obj.cells #[Value.slice A1 l.length c1, Value.bool false] 89)) := heap_alloc_new w1 _
  have hll : l.length ≤ 140737488355328 := by have := hl.out; omega
  have hcm : c1 ≤ 9223372036854775807 := by simp only [maxLen] at hc1; omega
  have hH := H1.out.alloc (Obj.cells #[Value.slice A1 l.length c1, Value.bool false] 89)
  rcases r1.out.2 with ⟨e, e2⟩ | ⟨g, cap', cur, e, hg, hcur, _⟩
  · injection e with e3 e4 e5
    subst e3
    have hnil : l = [] := List.eq_nil_of_length_eq_zero e4
    exact ⟨w1.heap.size, w1.heap.size, rfl, ⟨⟨none, l.length, c1, hat, by rw [List.drop_zero]; exact hH, (fun ad e => by cases e), hc2, hcm, fun _ => ⟨e5, hnil⟩⟩, Nat.zero_le _, .inl rfl, hll⟩, hs, Nat.le_refl _, hbb⟩
  · injection e with e3 e4 e5
    subst e3
    have hglt : g < w1.heap.size := (Array.getElem?_eq_some_iff.1 hcur).1
    refine ⟨w1.heap.size, g, rfl, ⟨⟨some ⟨g, 0, none⟩, l.length, c1, hat, by rw [List.drop_zero]; exact hH, (fun ad e => ?_), hc2, hcm, fun e => by cases e⟩, Nat.zero_le _, .inl rfl, hll⟩, hg, by omega, hbb⟩
    injection e with e
    subst e
    exact ⟨rfl, by omega, rfl⟩
end Go.Proofs.YtjhfgajhmenboaaDoor
