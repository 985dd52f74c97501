/-
  Contract of the law package: orders.
-/
import Derived.Test.YtlknlicokacoiaaBkLike
import Derived.Deep.RegionHeld3
namespace Go.Proofs.Ytlknlicokacoiaa
open Go.RowKit
set_option linter.unusedVariables false
set_option linter.unusedSimpArgs false

set_option maxRecDepth 100000 in
set_option maxHeartbeats 3200000 in
theorem LOrders_any (A B : Option Addr) (n ca cb : Nat) (l : List Or) (w : World) (hn : n ≤ 2000000) (ha : n ≤ ca) (hb : n ≤ cb) (hA : Hid (HV fO w A n l)) (hB : Hid (HV fO w B n l)) :
    Calls Try.prog 32 #[.slice A n ca, .slice B n cb] w fun e w' => e = .returned (.bool true) ∧ Below w.heap.size w w' := by
  have d0 : ((n : Int) != (n : Int)) = false := by simp
  have b0 : Hid (Below w.heap.size w w) := Lib.hid (Below.refl _ _)
  go_enter Try.func32, Try.ntmps32
  go_wp2_with fail
  go_loopw [5] (fun i wr => ∃ k : Nat, i = .int .i64 k ∧ k ≤ n ∧ Hid (Below w.heap.size w wr)) (fun i _ => (n - intOf i).toNat)
  case atStart => exact ⟨0, rfl, by omega, b0⟩
  case round =>
    clear b0
    obtain ⟨k, rfl, hk, hW⟩ := hrel
    by_cases hlt : k < n
    · have d1 : decide ((k : Int) < (n : Int)) = true := decide_eq_true (by omega)
      have d1' : decide (k < n) = true := decide_eq_true hlt
      have d3 : (k : Int) < (n : Int) := by omega
      obtain ⟨e, he⟩ : ∃ e, l[k]? = some e := ⟨_, List.getElem?_eq_getElem (by rw [hA.out.1]; exact hlt)⟩
      obtain ⟨ba, oa, rfl, -⟩ := hA.out.atO he
      obtain ⟨bb, ob, rfl, -⟩ := hB.out.atO he
      obtain ⟨i, s, p, n', t⟩ := e
      have HS : ∀ W : World, Below w.heap.size w W → (fun W : World => W.cell? ⟨ba, oa + k * 5, none⟩ = some (.int .i64 i) ∧ W.cell? ⟨ba, oa + k * 5 + 1, none⟩ = some (.int .i64 s) ∧ W.cell? ⟨ba, oa + k * 5 + 2, none⟩ = some (.int .i64 p) ∧ W.cell? ⟨ba, oa + k * 5 + 3, none⟩ = some (.int .i64 n') ∧ W.cell? ⟨ba, oa + k * 5 + 4, none⟩ = some (.bool t) ∧ W.cell? ⟨bb, ob + k * 5, none⟩ = some (.int .i64 i) ∧ W.cell? ⟨bb, ob + k * 5 + 1, none⟩ = some (.int .i64 s) ∧ W.cell? ⟨bb, ob + k * 5 + 2, none⟩ = some (.int .i64 p) ∧ W.cell? ⟨bb, ob + k * 5 + 3, none⟩ = some (.int .i64 n') ∧ W.cell? ⟨bb, ob + k * 5 + 4, none⟩ = some (.bool t)) W := fun W hb => by
        obtain ⟨b', o', e1, c0, c1, c2, c3, c4⟩ := (hA.out.below hb).atO he
        injection e1 with e1
        injection e1 with e1 e2
        subst e1; subst e2
        obtain ⟨b', o', e1, f0, f1, f2, f3, f4⟩ := (hB.out.below hb).atO he
        injection e1 with e1
        injection e1 with e1 e2
        subst e1; subst e2
        exact ⟨c0, c1, c2, c3, c4, f0, f1, f2, f3, f4⟩
      have bd : Below w.heap.size w wr.drew := ⟨hW.out.os, hW.out.tape, hW.out.output, hW.out.size, hW.out.block⟩
      have z0 := HS wr.drew bd
      have HP := Lib.hid (LOrder_any i s p n' t wr.drew)
      have LL : Hid (∀ w1 : World, Below wr.drew.heap.size wr.drew w1 → (fun W : World => W.cell? ⟨ba, oa + k * 5, none⟩ = some (.int .i64 i) ∧ W.cell? ⟨ba, oa + k * 5 + 1, none⟩ = some (.int .i64 s) ∧ W.cell? ⟨ba, oa + k * 5 + 2, none⟩ = some (.int .i64 p) ∧ W.cell? ⟨ba, oa + k * 5 + 3, none⟩ = some (.int .i64 n') ∧ W.cell? ⟨ba, oa + k * 5 + 4, none⟩ = some (.bool t) ∧ W.cell? ⟨bb, ob + k * 5, none⟩ = some (.int .i64 i) ∧ W.cell? ⟨bb, ob + k * 5 + 1, none⟩ = some (.int .i64 s) ∧ W.cell? ⟨bb, ob + k * 5 + 2, none⟩ = some (.int .i64 p) ∧ W.cell? ⟨bb, ob + k * 5 + 3, none⟩ = some (.int .i64 n') ∧ W.cell? ⟨bb, ob + k * 5 + 4, none⟩ = some (.bool t)) w1 ∧ Below w.heap.size w w1) := Lib.hid (fun w1 b1 => by
        have b2 := bd.trans (b1.mono bd.size)
        exact ⟨HS w1 b2, b2⟩)
      simp only at z0
      replace HS := Lib.hid HS
      replace bd := Lib.hid bd
      clear he
      go_upto_region 6 with (fail)
      go_region_held3 (fun W : World => W.cell? ⟨ba, oa + k * 5, none⟩ = some (.int .i64 i) ∧ W.cell? ⟨ba, oa + k * 5 + 1, none⟩ = some (.int .i64 s) ∧ W.cell? ⟨ba, oa + k * 5 + 2, none⟩ = some (.int .i64 p) ∧ W.cell? ⟨ba, oa + k * 5 + 3, none⟩ = some (.int .i64 n') ∧ W.cell? ⟨ba, oa + k * 5 + 4, none⟩ = some (.bool t) ∧ W.cell? ⟨bb, ob + k * 5, none⟩ = some (.int .i64 i) ∧ W.cell? ⟨bb, ob + k * 5 + 1, none⟩ = some (.int .i64 s) ∧ W.cell? ⟨bb, ob + k * 5 + 2, none⟩ = some (.int .i64 p) ∧ W.cell? ⟨bb, ob + k * 5 + 3, none⟩ = some (.int .i64 n') ∧ W.cell? ⟨bb, ob + k * 5 + 4, none⟩ = some (.bool t)) (first | with_reducible assumption | with_reducible exact z0 | with_reducible exact z1) ((go_at_call 28; refine HP.out.mono ?_; rintro e w1 ⟨rfl, b1⟩; obtain ⟨z1, m1⟩ := LL.out w1 b1; replace m1 := Lib.hid m1))
      go_wp2_with fail
      go_roundw
      case rel => exact ⟨k + 1, by go_num, by omega, m1⟩
      case measure => simp [intOf]; omega
    · obtain rfl : k = n := by omega
      have d1 : decide ((k : Int) < (k : Int)) = false := by simp
      have d1' : decide (k < k) = false := by simp
      go_wp2_with fail
      go_ret
      exact ⟨rfl, hW.out⟩
end Go.Proofs.Ytlknlicokacoiaa
