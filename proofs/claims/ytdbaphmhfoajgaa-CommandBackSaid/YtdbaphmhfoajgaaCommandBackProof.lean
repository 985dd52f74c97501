/-
  For every two commands and every slice of bytes the law CommandBack answers true, and all three read afterwards as before. Conditions: none.
-/
import Derived.Test.YtdbaphmhfoajgaaOpenCmd
import Derived.Test.YtdbaphmhfoajgaaCmdBack1
import Derived.Test.YtdbaphmhfoajgaaCmdBack2
import Derived.Test.YtdbaphmhfoajgaaCmdBack3
import Derived.Test.YtdbaphmhfoajgaaCmdBack4
import Derived.Test.YtdbaphmhfoajgaaRows
import Derived.WalkKit
import Derived.ProofKit
import Derived.OpenShut
import Derived.ShutString
import Derived.ChangeOld
import Derived.Below
import Derived.SizedLaws
namespace Go.Proofs.Ytdbaphmhfoajgaa.commandBack
open Go.ChangeShapes Go.WideShapes Go.ChangeAt Go.RowKit
open Go.ChangeMaps (open_string shut_string)
set_option linter.unusedVariables false

theorem own : ownKnob Try.prog.godebug = none := by kernel_rfl
theorem laidOut : laidOutB Try.prog = true := by kernel_rfl
theorem byteBytes : Try.prog.bytesOf 5 = 1 := by kernel_rfl

def IsRow (k : IntKind) (w : World) (a : Option Addr) (len cap : Nat) (zs : List Int) : Prop :=
  (a = none ∧ len = 0 ∧ cap = 0 ∧ zs = []) ∨
  ∃ x, a = some x ∧ len ≤ cap ∧ cap ≤ maxLen ∧ zs.length = cap ∧ (∀ i, i < zs.length → w.cell? (x.add i) = some (.int k (zs.getD i 0))) ∧ ∀ n ∈ zs, (Lit.int k n).wf = true

theorem walk (c0 : C) (c1 : C) (a2 : Option Addr) (len2 cap2 : Nat) (z2 : List Int) (w : World) (w0 : c0.Num) (w1 : c1.Num) (w2 : IsRow .u8 w a2 len2 cap2 z2) (at2 : ∀ ad, a2 = some ad → ad.block < w.heap.size ∧ ad.spot = none) (hr2 : len2 ≤ 140737488351232) :
    Calls Try.prog 6 #[c0.val, c1.val, .slice a2 len2 cap2] w fun e w' => e = .returned (.bool true) ∧ Below w.heap.size w w' := by
  obtain ⟨lb, hB, r1, r2, r3⟩ := row_bytes w2
  obtain ⟨k, i, n, s, p, q, l, t, S⟩ := c0
  obtain ⟨k', i', n', s', p', q', l', t', S'⟩ := c1
  obtain ⟨kb, ib, nb, sb, pb, qb, lb_, tb⟩ := w0
  obtain ⟨kc, ic, nc, sc, pc, qc, lc, tc⟩ := w1
  have hA : Src w a2 len2 cap2 lb := ⟨hB, at2, r1, r2, by omega, fun e => (r3 e).2⟩
  by_cases hE : C.right ⟨k, i, n, s, p, q, l, t, S.take 60⟩ = 0
  · by_cases hF : C.right ⟨k', i', n', s', p', q', l', t', S'.take 60⟩ = 0
    · by_cases hG : askedC ⟨k, i, n, s, p, q, l, t, S.take 60⟩ = askedC ⟨k', i', n', s', p', q', l', t', S'.take 60⟩
      · by_cases hg : (decC lb).2 = 0
        · exact Back_same_y k i n s p q l t k' i' n' s' p' q' l' t' S S' a2 len2 cap2 lb w kb ib nb sb pb qb lb_ tb kc ic nc sc pc qc lc tc (Lib.hid hA) hr2 (fun U e => by rw [← e]; exact hE) (fun V e => by rw [← e]; exact hF) (fun U V e e' => by rw [← e, ← e']; exact hG) (Lib.hid hg)
        · exact Back_same_n k i n s p q l t k' i' n' s' p' q' l' t' S S' a2 len2 cap2 lb w kb ib nb sb pb qb lb_ tb kc ic nc sc pc qc lc tc (Lib.hid hA) hr2 (fun U e => by rw [← e]; exact hE) (fun V e => by rw [← e]; exact hF) (fun U V e e' => by rw [← e, ← e']; exact hG) (Lib.hid hg)
      · by_cases hg : (decC lb).2 = 0
        · exact Back_not_y k i n s p q l t k' i' n' s' p' q' l' t' S S' a2 len2 cap2 lb w kb ib nb sb pb qb lb_ tb kc ic nc sc pc qc lc tc (Lib.hid hA) hr2 (fun U e => by rw [← e]; exact hE) (fun V e => by rw [← e]; exact hF) (fun U V e e' => by rw [← e, ← e']; exact hG) (Lib.hid hg)
        · exact Back_not_n k i n s p q l t k' i' n' s' p' q' l' t' S S' a2 len2 cap2 lb w kb ib nb sb pb qb lb_ tb kc ic nc sc pc qc lc tc (Lib.hid hA) hr2 (fun U e => by rw [← e]; exact hE) (fun V e => by rw [← e]; exact hF) (fun U V e e' => by rw [← e, ← e']; exact hG) (Lib.hid hg)
    · by_cases hg : (decC lb).2 = 0
      · exact Back_one_y k i n s p q l t k' i' n' s' p' q' l' t' S S' a2 len2 cap2 lb w kb ib nb sb pb qb lb_ tb kc ic nc sc pc qc lc tc (Lib.hid hA) hr2 (fun U e => by rw [← e]; exact hE) (fun V e => by rw [← e]; exact hF) (Lib.hid hg)
      · exact Back_one_n k i n s p q l t k' i' n' s' p' q' l' t' S S' a2 len2 cap2 lb w kb ib nb sb pb qb lb_ tb kc ic nc sc pc qc lc tc (Lib.hid hA) hr2 (fun U e => by rw [← e]; exact hE) (fun V e => by rw [← e]; exact hF) (Lib.hid hg)
  · by_cases hg : (decC lb).2 = 0
    · exact Back_no_y k i n s p q l t k' i' n' s' p' q' l' t' S S' a2 len2 cap2 lb w kb ib nb sb pb qb lb_ tb kc ic nc sc pc qc lc tc (Lib.hid hA) hr2 (fun U e => by rw [← e]; exact hE) (Lib.hid hg)
    · exact Back_no_n k i n s p q l t k' i' n' s' p' q' l' t' S S' a2 len2 cap2 lb w kb ib nb sb pb qb lb_ tb kc ic nc sc pc qc lc tc (Lib.hid hA) hr2 (fun U e => by rw [← e]; exact hE) (Lib.hid hg)

set_option maxRecDepth 100000 in
theorem lifted (os : Os) (started : os.Started) (H : Type) (enc : TypeId × Value → H) :
    ReturnsInHanded {} Try.checked os 6 .any (Rows.commandBackSpec.pre6 enc Try.prog Try.f6 Rows.commandBackRow.domain false) (Rows.commandBackSpec.post enc Try.prog Try.f6 false true false false) := by
  refine returnsInHanded_of_change_sized (C := Try.checked) own started (by kernel_rfl) Try.func6
    (ChangeSpec.witness6 (enc := enc) (C := Try.checked) false ⟨#[], #[.agg #[.int .i64 0, .int .i64 0, .int .i64 0, .int .i64 0, .int .i64 0, .int .i64 0, .int .i64 0, .int .i64 0, .string ByteArray.empty], .agg #[.int .i64 0, .int .i64 0, .int .i64 0, .int .i64 0, .int .i64 0, .int .i64 0, .int .i64 0, .int .i64 0, .string ByteArray.empty], .slice none 0 0], []⟩ 8 (by kernel_rfl) (by kernel_rfl) (by kernel_rfl) (by kernel_rfl)) ?_
  intro W base args ds gs before hval0 hW hcnd hsz0 _
  have hval : ∀ (j : Nat) t v, Try.f6.params[j]? = some t → args[j]? = some v → Value.okWide Try.prog W .any base t v := hval0
  have hsz : (DataW.weightsEach Try.prog (Try.f6.params.toList ++ Rows.commandBackSpec.plain.varTypes Try.prog) (ds ++ gs)).all (· ≤ reachBytes) = true := hsz0
  have hW' := hW
  obtain ⟨p, q, hA0, hV, rfl, hfz, hnd⟩ := hW
  have hA : DataW.TrodAll enc Try.prog W 0 (fun _ => true) true Try.f6.params.toList args.toList ds p := hA0
  rw [Try.params6] at hA hval hsz
  obtain ⟨v0, vs0, d0, ds0, p0, q0, hargs, rfl, rfl, h0, r0⟩ := trodAll_cons hA
  obtain ⟨v1, vs1, d1, ds1, p1, q1, rfl, rfl, rfl, h1, r1⟩ := trodAll_cons r0
  obtain ⟨v2, vs2, d2, ds2, p2, q2, rfl, rfl, rfl, h2, r2⟩ := trodAll_cons r1
  obtain ⟨rfl, rfl, rfl⟩ := trodAll_nil r2
  obtain rfl : args = #[v0, v1, v2] := by cases args; simp_all
  obtain ⟨rfl, rfl⟩ := trodVars_none hV
  have k0 := h0
  have lt0 : ∀ x ∈ p0, x.block < W.heap.size := by obtain ⟨m, hm⟩ := k0; exact DataW.trod_lt m _ _ _ hm
  obtain ⟨g0, rfl, w0⟩ := open_cmd (hval 0 23 v0 rfl rfl) h0
  have k1 := h1
  have lt1 : ∀ x ∈ p1, x.block < W.heap.size := by obtain ⟨m, hm⟩ := k1; exact DataW.trod_lt m _ _ _ hm
  obtain ⟨g1, rfl, w1⟩ := open_cmd (hval 1 23 v1 rfl rfl) h1
  obtain ⟨a2, len2, cap2, rfl⟩ := okWide_slice Try.underlying27 (hval 2 27 v2 rfl rfl)
  have k2 := h2
  have at2 := slice_at Try.underlying27 (hval 2 27 _ rfl rfl)
  have lt2 : ∀ x ∈ p2, x.block < W.heap.size := by obtain ⟨m, hm⟩ := k2; exact DataW.trod_lt m _ _ _ hm
  obtain ⟨z2, w2, hr2⟩ : ∃ zs, IsRow .u8 W a2 len2 cap2 zs ∧ len2 ≤ 140737488351232 := by
    obtain ⟨fuel, hf⟩ := h2
    rcases open_ints Try.underlying27 Try.underlying5 (by kernel_rfl) hf with ⟨hcs, _⟩ | ⟨x, l, c, zs, hcs, _, hl, hm, hz, hx, hcell, hwz⟩
    · simp [Value.cells] at hcs
      obtain ⟨rfl, rfl, rfl⟩ := hcs
      exact ⟨[], .inl ⟨rfl, rfl, rfl, rfl⟩, by omega⟩
    · simp [Value.cells] at hcs
      obtain ⟨rfl, rfl, rfl⟩ := hcs
      refine ⟨zs, .inr ⟨_, rfl, hl, hm, by simpa using hz, hcell, hwz⟩, ?_⟩
      simp only [Prod.mk.injEq] at hx
      obtain ⟨rfl, rfl⟩ := hx
      simp only [if_true] at hz
      have := sized_slice hsz (j := 2) (t := 27) (e := 5) rfl rfl Try.underlying27
      rw [byteBytes] at this
      simp only [lits, List.length_map, List.length_take, List.length_drop, reachBytes] at this
      omega
  clear hA0 hval0
  refine (walk g0 g1 a2 len2 cap2 z2 W w0 w1 w2 at2 hr2).mono fun e W' ⟨he, bel⟩ => ?_
  subst he
  exact ⟨_, rfl, _, _, _, [], _, [], hW', trodAll_mk1 (shut_bool Try.underlying4 _), (trodAll_cons_mk (Below.trod laidOut (by kernel_rfl) (of_decide_eq_true (by kernel_rfl)) k0 bel lt0) (trodAll_cons_mk (Below.trod laidOut (by kernel_rfl) (of_decide_eq_true (by kernel_rfl)) k1 bel lt1) (trodAll_cons_mk (Below.trod laidOut (by kernel_rfl) (of_decide_eq_true (by kernel_rfl)) k2 bel lt2) trodAll_mk0))), rfl, bel.frame _, fun h => by cases h⟩

theorem over : Rows.commandBackRow.holds Try.pinned (OpenSpec.ofChange Rows.commandBackSpec) :=
  OpenClaim.holds_of_wide 6 Try.f6 rfl rfl rfl rfl rfl rfl rfl ⟨rfl, rfl, rfl, rfl, rfl⟩ rfl rfl rfl rfl rfl (by kernel_rfl) Try.func6 (by kernel_rfl)
    (of_decide_eq_true (by kernel_rfl)) (by unfold Func.isWrapper; first | (rw [if_pos (by decide +kernel)]; kernel_rfl) | (rw [if_neg (by decide +kernel)]; exact ⟨rfl, rfl⟩))
    (fun os started H enc _ => lifted os started H enc)

theorem proved : Rows.CommandBackSaid := over
#print axioms proved
end Go.Proofs.Ytdbaphmhfoajgaa.commandBack
