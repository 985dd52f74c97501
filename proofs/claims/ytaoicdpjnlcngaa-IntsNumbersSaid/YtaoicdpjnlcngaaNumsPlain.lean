/-
  Plain facts under the law IntsNumbers.
-/
import Derived.Test.YtaoicdpjnlcngaaTellsWalk
import Derived.Test.YtaoicdpjnlcngaaRowPlain
import Derived.Deep.QuietTactic
import Derived.BigQuiet
namespace Go.Proofs.Ytaoicdpjnlcngaa
open Go.RowKit
set_option linter.unusedVariables false

/-- The numbers of the closed law. -/
def nums : List Int := [-9223372036854775808, -9223372036854775807, -4611686018427387904, -4294967296, -2147483649, -7, -2, -1, 0, 1, 2, 3, 7, 100, 2147483647, 4294967296, 3037000499, 3037000500, 4611686018427387904, 9223372036854775806, 9223372036854775807]
theorem nums_len : nums.length = 21 := rfl
theorem nums_fit : ∀ x ∈ nums, I64 x := by
  intro x hx
  simp only [nums, List.mem_cons, List.not_mem_nil, or_false] at hx
  unfold I64
  omega
theorem lit_holds (w : World) (xs : List Int) (hx : ∀ x ∈ xs, I64 x) (hn : xs.length ≤ 1000) : Holds (w.alloc (.cells (xs.map (Value.int .i64)).toArray 2)) (some ⟨w.heap.size, 0, none⟩) xs.length xs := by
  refine ⟨rfl, hx, fun _ => ⟨_, 0, rfl, fun k hk => ?_⟩⟩
  have o := World.ownsRow_lit (e := 2) (base := 0) (size := 1) w (xs.map (Value.int .i64)).toArray xs.length (Nat.zero_le _) (by simp only [maxLen]; omega) (by simp)
  rw [Nat.zero_add, World.ownsRow.cellAt o k (by omega)]
  simp [List.getD, List.getElem?_eq_getElem hk]
theorem Holds.at_ {w : World} {b : Nat} {n : Nat} {xs : List Int} (h : Holds w (some ⟨b, 0, none⟩) n xs) (k : Nat) (hk : k < n) : ∃ x, w.cell? ⟨b, k, none⟩ = some (.int .i64 x) ∧ I64 x := by
  obtain ⟨b', off, e, hc⟩ := h.2.2 (by omega)
  injection e with e
  injection e with e1 e2 e3
  subst e1; subst e2
  refine ⟨xs.getD k 0, ?_, h.2.1 _ (getD_mem (by rw [h.1]; exact hk))⟩
  have := hc k hk
  rwa [Nat.zero_add] at this
section
variable {P : Program} {f : FuncId} {args : Array Value} {v : Value}
theorem quiet_all {W : World} {n : Nat} (h : ∀ W : World, Calls P f args W (Drawn (.returned v) W)) : Calls P f args (W.drewN n) fun e w'' => e = .returned v ∧ ∃ m, w'' = W.drewN m :=
  (h _).mono fun _ _ ⟨he, m, hm⟩ => ⟨he, n + m, by rw [hm, World.drewN_drewN]⟩
theorem quiet_more {W : World} {a n : Nat} (h : ∀ W : World, Calls P f args W (Drawn (.returned v) W)) : Calls P f args (W.drewN (a + n)) fun e w'' => e = .returned v ∧ ∃ m, w'' = W.drewN (a + m) :=
  (h _).mono fun _ _ ⟨he, m, hm⟩ => ⟨he, n + m, by rw [hm, World.drewN_drewN, Nat.add_assoc]⟩
end
theorem Nums_any (w : World) : Calls Try.prog 9 #[] w fun e w' => e = .returned (.slice (some ⟨w.heap.size, 0, none⟩) 21 21) ∧ w' = w.alloc (.cells (nums.map (Value.int .i64)).toArray 2) := by
  go_enter Try.func9, Try.ntmps9
  go_wp2
  go_ret
  exact ⟨rfl, rfl⟩
theorem Same_drawn (a b : Int) (w : World) (ha : I64 a) (hb : I64 b) : Calls Try.prog 10 #[.int .i64 a, .int .i64 b] w (Drawn (.returned (.bool true)) w) :=
  (Same_any a b w ha.1 ha.2 hb.1 hb.2).mono fun _ _ h => ⟨h.1, 0, h.2.symm⟩
theorem Share_both (a b c : Int) (ha : I64 a) (hb : I64 b) (hc : I64 c) : ∃ (q : Int) (ok : Bool), (∀ w : World, Calls Try.prog 11 #[.int .i64 a, .int .i64 b, .int .i64 c] w (Drawn (.returned (.tuple #[.int .i64 q, .bool ok])) w)) ∧
      ∀ w : World, Calls Try.prog 12 #[.int .i64 a, .int .i64 b, .int .i64 c] w (Drawn (.returned (.tuple #[.int .i64 q, .bool ok])) w) := by
  obtain ⟨q, ok, h1, h2⟩ := Share_all a b c default ha.1 ha.2 hb.1 hb.2 hc.1 hc.2
  exact ⟨q, ok, h1, fun w => (h2 w).mono fun _ _ h => ⟨h.1, 0, h.2.symm⟩⟩
end Go.Proofs.Ytaoicdpjnlcngaa
