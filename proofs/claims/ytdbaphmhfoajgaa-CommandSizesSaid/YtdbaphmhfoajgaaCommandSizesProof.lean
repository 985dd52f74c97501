/-
  For every two commands the law CommandSizes answers true, and both read afterwards as before. Conditions: none.
-/
import Derived.Test.YtdbaphmhfoajgaaOpenCmd
import Derived.Test.YtdbaphmhfoajgaaCmdSizes1
import Derived.Test.YtdbaphmhfoajgaaCmdSizes2
import Derived.Test.YtdbaphmhfoajgaaCmdSizes3
import Derived.Test.YtdbaphmhfoajgaaCmdSizes4
import Derived.Test.YtdbaphmhfoajgaaRows
import Derived.WalkKit
import Derived.ProofKit
import Derived.OpenShut
import Derived.ShutString
import Derived.ChangeOld
import Derived.Below
namespace Go.Proofs.Ytdbaphmhfoajgaa.commandSizes
open Go.ChangeShapes Go.WideShapes Go.ChangeAt Go.RowKit
open Go.ChangeMaps (open_string shut_string)
set_option linter.unusedVariables false

theorem own : ownKnob Try.prog.godebug = none := by kernel_rfl
theorem laidOut : laidOutB Try.prog = true := by kernel_rfl

def IsRow (k : IntKind) (w : World) (a : Option Addr) (len cap : Nat) (zs : List Int) : Prop :=
  (a = none ∧ len = 0 ∧ cap = 0 ∧ zs = []) ∨
  ∃ x, a = some x ∧ len ≤ cap ∧ cap ≤ maxLen ∧ zs.length = cap ∧ (∀ i, i < zs.length → w.cell? (x.add i) = some (.int k (zs.getD i 0))) ∧ ∀ n ∈ zs, (Lit.int k n).wf = true

theorem walk (c0 : C) (c1 : C) (w : World) (w0 : c0.Num) (w1 : c1.Num) :
    Calls Try.prog 8 #[c0.val, c1.val] w fun e w' => e = .returned (.bool true) ∧ Below w.heap.size w w' := by
  obtain ⟨k, i, n, s, p, q, l, t, S⟩ := c0
  obtain ⟨k', i', n', s', p', q', l', t', S'⟩ := c1
  obtain ⟨kb, ib, nb, sb, pb, qb, lb, tb⟩ := w0
  obtain ⟨kc, ic, nc, sc, pc, qc, lc, tc⟩ := w1
  by_cases hE : C.right ⟨k, i, n, s, p, q, l, t, S.take 60⟩ = 0
  · rcases right_kind hE with e | e | e | e
    · obtain rfl : k = 1 := e
      exact Sizes_1 i n s p q l t k' i' n' s' p' q' l' t' S S' w kb ib nb sb pb qb lb tb kc ic nc sc pc qc lc tc (fun U e => by rw [← e]; exact hE)
    · obtain rfl : k = 2 := e
      exact Sizes_2 i n s p q l t k' i' n' s' p' q' l' t' S S' w kb ib nb sb pb qb lb tb kc ic nc sc pc qc lc tc (fun U e => by rw [← e]; exact hE)
    · obtain rfl : k = 3 := e
      exact Sizes_3 i n s p q l t k' i' n' s' p' q' l' t' S S' w kb ib nb sb pb qb lb tb kc ic nc sc pc qc lc tc (fun U e => by rw [← e]; exact hE)
    · obtain rfl : k = 4 := e
      exact Sizes_4 i n s p q l t k' i' n' s' p' q' l' t' S S' w kb ib nb sb pb qb lb tb kc ic nc sc pc qc lc tc (fun U e => by rw [← e]; exact hE)
  · exact Sizes_bad k i n s p q l t k' i' n' s' p' q' l' t' S S' w kb ib nb sb pb qb lb tb (fun U e => by rw [← e]; exact hE)

set_option maxRecDepth 100000 in
theorem lifted (os : Os) (started : os.Started) (H : Type) (enc : TypeId × Value → H) :
    ReturnsInHanded {} Try.checked os 8 .any (Rows.commandSizesSpec.pre6 enc Try.prog Try.f8 Rows.commandSizesRow.domain false) (Rows.commandSizesSpec.post enc Try.prog Try.f8 false true false false) := by
  refine returnsInHanded_of_change (C := Try.checked) own started (by kernel_rfl) Try.func8
    (ChangeSpec.witness6 (enc := enc) (C := Try.checked) false ⟨#[], #[.agg #[.int .i64 0, .int .i64 0, .int .i64 0, .int .i64 0, .int .i64 0, .int .i64 0, .int .i64 0, .int .i64 0, .string ByteArray.empty], .agg #[.int .i64 0, .int .i64 0, .int .i64 0, .int .i64 0, .int .i64 0, .int .i64 0, .int .i64 0, .int .i64 0, .string ByteArray.empty]], []⟩ 8 (by kernel_rfl) (by kernel_rfl) (by kernel_rfl) (by kernel_rfl)) ?_
  intro W base args ds gs before hval0 hW hcnd _
  have hval : ∀ (j : Nat) t v, Try.f8.params[j]? = some t → args[j]? = some v → Value.okWide Try.prog W .any base t v := hval0
  have hW' := hW
  obtain ⟨p, q, hA0, hV, rfl, hfz, hnd⟩ := hW
  have hA : DataW.TrodAll enc Try.prog W 0 (fun _ => true) true Try.f8.params.toList args.toList ds p := hA0
  rw [Try.params8] at hA hval
  obtain ⟨v0, vs0, d0, ds0, p0, q0, hargs, rfl, rfl, h0, r0⟩ := trodAll_cons hA
  obtain ⟨v1, vs1, d1, ds1, p1, q1, rfl, rfl, rfl, h1, r1⟩ := trodAll_cons r0
  obtain ⟨rfl, rfl, rfl⟩ := trodAll_nil r1
  obtain rfl : args = #[v0, v1] := by cases args; simp_all
  obtain ⟨rfl, rfl⟩ := trodVars_none hV
  have k0 := h0
  have lt0 : ∀ x ∈ p0, x.block < W.heap.size := by obtain ⟨m, hm⟩ := k0; exact DataW.trod_lt m _ _ _ hm
  obtain ⟨g0, rfl, w0⟩ := open_cmd (hval 0 23 v0 rfl rfl) h0
  have k1 := h1
  have lt1 : ∀ x ∈ p1, x.block < W.heap.size := by obtain ⟨m, hm⟩ := k1; exact DataW.trod_lt m _ _ _ hm
  obtain ⟨g1, rfl, w1⟩ := open_cmd (hval 1 23 v1 rfl rfl) h1
  clear hA0 hval0
  refine (walk g0 g1 W w0 w1).mono fun e W' ⟨he, bel⟩ => ?_
  subst he
  exact ⟨_, rfl, _, _, _, [], _, [], hW', trodAll_mk1 (shut_bool Try.underlying4 _), (trodAll_cons_mk (Below.trod laidOut (by kernel_rfl) (of_decide_eq_true (by kernel_rfl)) k0 bel lt0) (trodAll_cons_mk (Below.trod laidOut (by kernel_rfl) (of_decide_eq_true (by kernel_rfl)) k1 bel lt1) trodAll_mk0)), rfl, bel.frame _, fun h => by cases h⟩

theorem over : Rows.commandSizesRow.holds Try.pinned (OpenSpec.ofChange Rows.commandSizesSpec) :=
  OpenClaim.holds_of_wide 8 Try.f8 rfl rfl rfl rfl rfl rfl rfl ⟨rfl, rfl, rfl, rfl, rfl⟩ rfl rfl rfl rfl rfl (by kernel_rfl) Try.func8 (by kernel_rfl)
    (of_decide_eq_true (by kernel_rfl)) (by unfold Func.isWrapper; first | (rw [if_pos (by decide +kernel)]; kernel_rfl) | (rw [if_neg (by decide +kernel)]; exact ⟨rfl, rfl⟩))
    (fun os started H enc _ => lifted os started H enc)

theorem proved : Rows.CommandSizesSaid := over
#print axioms proved
end Go.Proofs.Ytdbaphmhfoajgaa.commandSizes
