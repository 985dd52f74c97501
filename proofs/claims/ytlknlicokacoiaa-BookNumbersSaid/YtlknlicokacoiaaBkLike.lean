/-
  Contracts of the law package: order, levels.
-/
import Derived.Test.YtlknlicokacoiaaRBest
import Derived.Test.YtlknlicokacoiaaRAt
namespace Go.Proofs.Ytlknlicokacoiaa
open Go.RowKit
set_option linter.unusedVariables false
set_option linter.unusedSimpArgs false

set_option maxRecDepth 100000 in
set_option maxHeartbeats 2000000 in
theorem LOrder_any (i s p n : Int) (t : Bool) (w : World) :
    Calls Try.prog 28 #[.agg #[.int .i64 i, .int .i64 s, .int .i64 p, .int .i64 n, .bool t], .agg #[.int .i64 i, .int .i64 s, .int .i64 p, .int .i64 n, .bool t]] w fun e w' => e = .returned (.bool true) ∧ Below w.heap.size w w' := by
  obtain ⟨W1, eW1⟩ : ∃ X, w.alloc (.cells #[.int .i64 i, .int .i64 s, .int .i64 p, .int .i64 n, .bool t] 40) = X := ⟨_, rfl⟩
  obtain ⟨W2, eW2⟩ : ∃ X, W1.alloc (.cells #[.int .i64 i, .int .i64 s, .int .i64 p, .int .i64 n, .bool t] 68) = X := ⟨_, rfl⟩
  obtain ⟨g1, eg1⟩ : ∃ g, w.heap.size = g := ⟨_, rfl⟩
  obtain ⟨g2, eg2⟩ : ∃ g, W1.heap.size = g := ⟨_, rfl⟩
  have b1 : Below w.heap.size w W1 := by rw [← eW1]; exact (Below.refl _ _).alloc (Nat.le_refl _) _
  have b2 : Below W1.heap.size W1 W2 := by rw [← eW2]; exact (Below.refl _ _).alloc (Nat.le_refl _) _
  have h1 : W2.heap[g1]? = some (.cells #[.int .i64 i, .int .i64 s, .int .i64 p, .int .i64 n, .bool t] 40 (0, 0)) := by
    have h : W1.heap[g1]? = some (.cells #[.int .i64 i, .int .i64 s, .int .i64 p, .int .i64 n, .bool t] 40 (0, 0)) := by rw [← eW1, ← eg1]; exact heap_alloc_new w _
    exact (b2.block g1 (Array.getElem?_eq_some_iff.1 h).1).trans h
  have h2 : W2.heap[g2]? = some (.cells #[.int .i64 i, .int .i64 s, .int .i64 p, .int .i64 n, .bool t] 68 (0, 0)) := by rw [← eW2, ← eg2]; exact heap_alloc_new W1 _
  obtain ⟨⟨x0, x1, x2, x3, x4⟩, -⟩ := row5 h1
  obtain ⟨⟨y0, y1, y2, y3, y4⟩, -⟩ := row5 h2
  have fin : Hid (Below w.heap.size w W2) := Lib.hid (b1.trans (b2.mono b1.size))
  replace b1 := Lib.hid b1
  replace b2 := Lib.hid b2
  replace h1 := Lib.hid h1
  replace h2 := Lib.hid h2
  rw [eg1] at fin ⊢
  go_enter Try.func28, Try.ntmps28
  go_wp2_with fail
  (try go_quiet (fail))
  (try go_wp2_with fail)
  go_ret
  exact ⟨rfl, fin.out⟩
set_option maxRecDepth 100000 in
set_option maxHeartbeats 3200000 in
theorem LLevels_any (A B : Option Addr) (n ca cb : Nat) (l : List Lv) (w : World) (hn : n ≤ 2000000) (ha : n ≤ ca) (hb : n ≤ cb) (hA : Hid (HV fL w A n l)) (hB : Hid (HV fL w B n l)) :
    Calls Try.prog 30 #[.slice A n ca, .slice B n cb] w fun e w' => e = .returned (.bool true) ∧ ∃ q, w' = w.drewN q := by
  have d0 : ((n : Int) != (n : Int)) = false := by simp
  go_enter Try.func30, Try.ntmps30
  go_wp2_with fail
  go_loopw [5] (fun i wr => ∃ k : Nat, i = .int .i64 k ∧ k ≤ n ∧ ∃ q, wr = w.drewN q) (fun i _ => (n - intOf i).toNat)
  case atStart => exact ⟨0, rfl, by omega, 0, rfl⟩
  case round =>
    obtain ⟨k, rfl, hk, q, rfl⟩ := hrel
    by_cases hlt : k < n
    · have d1 : decide ((k : Int) < (n : Int)) = true := decide_eq_true (by omega)
      have d1' : decide (k < n) = true := decide_eq_true hlt
      have d3 : (k : Int) < (n : Int) := by omega
      obtain ⟨e, he⟩ : ∃ e, l[k]? = some e := ⟨_, List.getElem?_eq_getElem (by rw [hA.out.1]; exact hlt)⟩
      obtain ⟨ba, oa, rfl, c0, c1, c2⟩ := hA.out.atL he
      obtain ⟨bb, ob, rfl, e0, e1, e2⟩ := hB.out.atL he
      obtain ⟨p, m, c⟩ := e
      simp only at c0 c1 c2 e0 e1 e2
      clear he
      go_wp2_with fail
      go_quiet (fail)
      go_wp2_with fail
      go_roundw
      case rel => exact ⟨k + 1, by go_num, by omega, _, rfl⟩
      case measure => simp [intOf]; omega
    · obtain rfl : k = n := by omega
      have d1 : decide ((k : Int) < (k : Int)) = false := by simp
      have d1' : decide (k < k) = false := by simp
      go_wp2_with fail
      go_ret
      exact ⟨rfl, q, rfl⟩
end Go.Proofs.Ytlknlicokacoiaa
