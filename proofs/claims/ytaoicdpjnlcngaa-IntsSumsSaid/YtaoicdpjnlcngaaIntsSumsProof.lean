/-
  For every slice of int64 numbers, every int64 number and every place the law IntsSums answers true, and all three read afterwards as before. Conditions: none.
-/
import Derived.Test.YtaoicdpjnlcngaaSums1
import Derived.Test.YtaoicdpjnlcngaaSums2
import Derived.Test.YtaoicdpjnlcngaaSums3
import Derived.Test.YtaoicdpjnlcngaaSums4
import Derived.Test.YtaoicdpjnlcngaaSums5
import Derived.Test.YtaoicdpjnlcngaaSums6
import Derived.Test.YtaoicdpjnlcngaaSumsNil
import Derived.Test.YtaoicdpjnlcngaaSumsLeast
import Derived.Test.YtaoicdpjnlcngaaRows
import Derived.WalkKit
import Derived.ProofKit
import Derived.OpenShut
import Derived.ShutString
import Derived.ChangeOld
import Derived.Below
namespace Go.Proofs.Ytaoicdpjnlcngaa.intsSums
open Go.ChangeShapes Go.WideShapes Go.ChangeAt Go.RowKit
open Go.ChangeMaps (open_string shut_string)
set_option linter.unusedVariables false

theorem own : ownKnob Try.prog.godebug = none := by kernel_rfl
theorem laidOut : laidOutB Try.prog = true := by kernel_rfl

def IsRow (k : IntKind) (w : World) (a : Option Addr) (len cap : Nat) (zs : List Int) : Prop :=
  (a = none ∧ len = 0 ∧ cap = 0 ∧ zs = []) ∨
  ∃ x, a = some x ∧ len ≤ cap ∧ cap ≤ maxLen ∧ zs.length = cap ∧ (∀ i, i < zs.length → w.cell? (x.add i) = some (.int k (zs.getD i 0))) ∧ ∀ n ∈ zs, (Lit.int k n).wf = true

theorem walk (a0 : Option Addr) (len0 cap0 : Nat) (z0 : List Int) (a1 : Int) (a2 : Int) (w : World) (w0 : IsRow .i64 w a0 len0 cap0 z0) (w1 : (Lit.int .i64 a1).wf = true) (w2 : (Lit.int .i64 a2).wf = true) :
    Calls Try.prog 7 #[.slice a0 len0 cap0, .int .i64 a1, .int .i64 a2] w fun e w' => e = .returned (.bool true) ∧ Below w.heap.size w w' := by
  obtain ⟨x1, x2⟩ := bounds_i64 w1
  obtain ⟨t1, t2⟩ := bounds_i64 w2
  obtain ⟨l1, l2, hnil, hh⟩ : len0 ≤ cap0 ∧ cap0 ≤ 9223372036854775807 ∧ (a0 = none → len0 = 0 ∧ cap0 = 0) ∧ Holds w a0 len0 (z0.take len0) := by
    rcases w0 with ⟨rfl, rfl, rfl, rfl⟩ | ⟨x, rfl, hl, hm, hz, hc, hw⟩
    · exact ⟨Nat.le_refl _, by omega, fun _ => ⟨rfl, rfl⟩, rfl, by simp, fun h => absurd h (by omega)⟩
    · unfold maxLen at hm
      refine ⟨hl, hm, (fun h => by cases h), by rw [List.length_take]; omega, fun y hy => bounds_i64 (hw y (List.mem_of_mem_take hy)), fun h => ?_⟩
      obtain ⟨b, off, spot⟩ := x
      have hs : spot = none := by simpa [Addr.add] using World.cell?_spot (hc 0 (by omega))
      subst hs
      refine ⟨b, off, rfl, fun k hk => ?_⟩
      rw [show (z0.take len0).getD k 0 = z0.getD k 0 by simp [List.getD, hk], ← add_plain]
      exact hc k (by omega)
  cases a0 with
  | none =>
    obtain ⟨rfl, rfl⟩ := hnil rfl
    by_cases hx : a1 = -9223372036854775808
    · subst hx
      exact Sums_least_short none 0 0 a2 w (by omega)
    · exact Sums_nil a1 a2 w (by omega) x2 t1 t2
  | some ad =>
    by_cases hx : a1 = -9223372036854775808
    · subst hx
      by_cases big : 100 < len0
      · exact Sums_least_long ad len0 cap0 a2 w big l1 l2
      · exact Sums_least_short (some ad) len0 cap0 a2 w (by omega)
    by_cases big : 100 < len0
    · obtain ⟨k, hk, ⟨ht, Hk⟩ | ⟨ht, Hk⟩⟩ := place_of a2 100
      · exact Sums_big_neg_part _ ad 100 cap0 k a1 a2 w len0 big l1 (Lib.hid rfl) (by omega) l2 (by omega) (Lib.hid (holds_take hh (by omega))) hk (by omega) x2 t1 t2 ht Hk (by omega)
      · exact Sums_big_pos_part _ ad 100 cap0 k a1 a2 w len0 big l1 (Lib.hid rfl) (by omega) l2 (by omega) (Lib.hid (holds_take hh (by omega))) hk (by omega) x2 t1 t2 ht Hk (by omega)
    · obtain ⟨k, hk, ⟨ht, Hk⟩ | ⟨ht, Hk⟩⟩ := place_of a2 len0
      · by_cases full : cap0 = k
        · exact Sums_neg_full _ ad len0 cap0 k a1 a2 w l1 l2 (by omega) (Lib.hid hh) hk (by omega) x2 t1 t2 ht Hk full
        · exact Sums_neg_part _ ad len0 cap0 k a1 a2 w l1 l2 (by omega) (Lib.hid hh) hk (by omega) x2 t1 t2 ht Hk full
      · by_cases full : cap0 = k
        · exact Sums_pos_full _ ad len0 cap0 k a1 a2 w l1 l2 (by omega) (Lib.hid hh) hk (by omega) x2 t1 t2 ht Hk full
        · exact Sums_pos_part _ ad len0 cap0 k a1 a2 w l1 l2 (by omega) (Lib.hid hh) hk (by omega) x2 t1 t2 ht Hk full

set_option maxRecDepth 100000 in
theorem lifted (os : Os) (started : os.Started) (H : Type) (enc : TypeId × Value → H) :
    ReturnsInHanded {} Try.checked os 7 .any (Rows.intsSumsSpec.pre6 enc Try.prog Try.f7 Rows.intsSumsRow.domain false) (Rows.intsSumsSpec.post enc Try.prog Try.f7 false true false false) := by
  refine returnsInHanded_of_change (C := Try.checked) own started (by kernel_rfl) Try.func7
    (ChangeSpec.witness6 (enc := enc) (C := Try.checked) false ⟨#[], #[.slice none 0 0, .int .i64 0, .int .i64 0], []⟩ 8 (by kernel_rfl) (by kernel_rfl) (by kernel_rfl) (by kernel_rfl)) ?_
  intro W base args ds gs before hval0 hW hcnd _
  have hval : ∀ (j : Nat) t v, Try.f7.params[j]? = some t → args[j]? = some v → Value.okWide Try.prog W .any base t v := hval0
  have hW' := hW
  obtain ⟨p, q, hA0, hV, rfl, hfz, hnd⟩ := hW
  have hA : DataW.TrodAll enc Try.prog W 0 (fun _ => true) true Try.f7.params.toList args.toList ds p := hA0
  rw [Try.params7] at hA hval
  obtain ⟨v0, vs0, d0, ds0, p0, q0, hargs, rfl, rfl, h0, r0⟩ := trodAll_cons hA
  obtain ⟨v1, vs1, d1, ds1, p1, q1, rfl, rfl, rfl, h1, r1⟩ := trodAll_cons r0
  obtain ⟨v2, vs2, d2, ds2, p2, q2, rfl, rfl, rfl, h2, r2⟩ := trodAll_cons r1
  obtain ⟨rfl, rfl, rfl⟩ := trodAll_nil r2
  obtain rfl : args = #[v0, v1, v2] := by cases args; simp_all
  obtain ⟨rfl, rfl⟩ := trodVars_none hV
  obtain ⟨a0, len0, cap0, rfl⟩ := okWide_slice Try.underlying22 (hval 0 22 v0 rfl rfl)
  have k0 := h0
  have lt0 : ∀ x ∈ p0, x.block < W.heap.size := by obtain ⟨m, hm⟩ := k0; exact DataW.trod_lt m _ _ _ hm
  obtain ⟨z0, w0⟩ : ∃ zs, IsRow .i64 W a0 len0 cap0 zs := by
    obtain ⟨fuel, hf⟩ := h0
    rcases open_ints Try.underlying22 Try.underlying2 (by kernel_rfl) hf with ⟨hcs, _⟩ | ⟨x, l, c, zs, hcs, _, hl, hm, hz, _, hcell, hwz⟩
    · simp [Value.cells] at hcs
      obtain ⟨rfl, rfl, rfl⟩ := hcs
      exact ⟨[], .inl ⟨rfl, rfl, rfl, rfl⟩⟩
    · simp [Value.cells] at hcs
      obtain ⟨rfl, rfl, rfl⟩ := hcs
      exact ⟨zs, .inr ⟨_, rfl, hl, hm, by simpa using hz, hcell, hwz⟩⟩
  obtain ⟨a1, rfl, rfl, rfl, w1⟩ := open_int Try.underlying2 (hval 1 2 v1 rfl rfl) h1
  obtain ⟨a2, rfl, rfl, rfl, w2⟩ := open_int Try.underlying3 (hval 2 3 v2 rfl rfl) h2
  clear hA0 hval0
  refine (walk a0 len0 cap0 z0 a1 a2 W w0 w1 w2).mono fun e W' ⟨he, bel⟩ => ?_
  subst he
  exact ⟨_, rfl, _, _, _, [], _, [], hW', trodAll_mk1 (shut_bool Try.underlying4 _), (trodAll_cons_mk (Below.trod laidOut (by kernel_rfl) (of_decide_eq_true (by kernel_rfl)) k0 bel lt0) (trodAll_cons_mk (shut_int Try.underlying2 w1) (trodAll_cons_mk (shut_int Try.underlying3 w2) trodAll_mk0))), rfl, bel.frame _, fun h => by cases h⟩

theorem over : Rows.intsSumsRow.holds Try.pinned (OpenSpec.ofChange Rows.intsSumsSpec) :=
  OpenClaim.holds_of_wide 7 Try.f7 rfl rfl rfl rfl rfl rfl rfl ⟨rfl, rfl, rfl, rfl, rfl⟩ rfl rfl rfl rfl rfl (by kernel_rfl) Try.func7 (by kernel_rfl)
    (of_decide_eq_true (by kernel_rfl)) (by unfold Func.isWrapper; first | (rw [if_pos (by decide +kernel)]; kernel_rfl) | (rw [if_neg (by decide +kernel)]; exact ⟨rfl, rfl⟩))
    (fun os started H enc _ => lifted os started H enc)

theorem proved : Rows.IntsSumsSaid := over
#print axioms proved
end Go.Proofs.Ytaoicdpjnlcngaa.intsSums
