/-
  Contracts: Get, Free, of level.
-/
import Derived.Test.YtlknlicokacoiaaLvReads
import Derived.Laws.ResultCell
namespace Go.Proofs.Ytlknlicokacoiaa
open Go.RowKit
set_option linter.unusedVariables false
set_option linter.unusedSimpArgs false

/-- An order as a value. -/
def En.val (e : En) : Value := .agg #[.int .i64 (e.s : Int), .int .i64 e.i, .int .i64 e.n, .bool e.t]
theorem results_cell_row_tmp {P : Program} {fn : Func} {p u : Tmp} {ty : TypeId} (h : fn.results = #[.cell p ty, .tmp u]) (tmps : Array Value) (w : World) (g : Nat) (t : TypeId) (cs : Array Value) (fr : Nat × Nat) (d : TypeDesc)
    (hp : tmps.getD p undef = .pointer (some ⟨g, 0, none⟩)) (hg : w.heap[g]? = some (.cells cs t fr))
    (hu : P.underlying ty = some d) (hd : (match d with | .struct _ | .array _ _ => true | _ => false) = true) (hi : (P.info? ty).map (·.size) = some cs.size) :
    (results fn tmps).run P w = .ok (.tuple #[.agg cs, tmps.getD u undef]) w := by
  rw [results_cell_tmp h, hp]
  simp [asAddr, run_loadVar_row w g t ty cs fr d hg hu hd hi, Result.andThen]
theorem build_none : ∀ W : World, (Instr.build 90 #[]).run Try.prog W = .ok (.agg #[.int .i64 0, .int .i64 0, .int .i64 0, .bool false]) W := fun W => by kernel_rfl
theorem row4 {w : World} {g : Nat} {T : TypeId} {x0 x1 x2 x3 : Value} (h : w.heap[g]? = some (.cells #[x0, x1, x2, x3] T (0, 0))) :
    (w.cell? ⟨g, 0, none⟩ = some x0 ∧ w.cell? ⟨g, 1, none⟩ = some x1 ∧ w.cell? ⟨g, 2, none⟩ = some x2 ∧ w.cell? ⟨g, 3, none⟩ = some x3) ∧ (w.frozen? ⟨g, 0, none⟩ = false ∧ w.frozen? ⟨g, 1, none⟩ = false ∧ w.frozen? ⟨g, 2, none⟩ = false ∧ w.frozen? ⟨g, 3, none⟩ = false) := by
  refine ⟨⟨?_, ?_, ?_, ?_⟩, Lib.frozen_of_heap h 0, Lib.frozen_of_heap h 1, Lib.frozen_of_heap h 2, Lib.frozen_of_heap h 3⟩ <;> (rw [Lib.cell_of_heap h]; rfl)
theorem set4 {w : World} {g : Nat} {T : TypeId} {x0 x1 x2 x3 : Value} (v0 v1 v2 v3 : Value) (h : w.heap[g]? = some (.cells #[x0, x1, x2, x3] T (0, 0))) :
    ((((w.setCell ⟨g, 0, none⟩ v0).setCell ⟨g, 1, none⟩ v1).setCell ⟨g, 2, none⟩ v2).setCell ⟨g, 3, none⟩ v3).heap[g]? = some (.cells #[v0, v1, v2, v3] T (0, 0)) := by
  have h0 := heap_setCell_same w g 0 _ T v0 h
  have h1 := heap_setCell_same _ g 1 _ T v1 h0
  have h2 := heap_setCell_same _ g 2 _ T v2 h1
  exact heap_setCell_same _ g 3 _ T v3 h2
set_option maxRecDepth 100000 in
set_option maxHeartbeats 2000000 in
theorem Get_any (B c : Nat) (F : Nat → Prop) (st : St) (slot : Int) (w : World) (hA0 : Hid (AR B c F st w)) :
    Calls Try.prog 61 #[.pointer (some ⟨c, 0, none⟩), .int .i64 slot] w fun e w' => e = .returned (.tuple #[(getO st slot).1.val, .bool (getO st slot).2]) ∧ Below w.heap.size w w' := by
  obtain ⟨s, v, L, E, eF, hA, hI, hB⟩ := hA0.out
  replace hA := Lib.hid hA
  replace hI := Lib.hid hI
  have bb : Hid (Below w.heap.size w (w.alloc (.cells #[.int .i64 0, .int .i64 0, .int .i64 0, .bool false] 90))) := Lib.hid ((Below.refl _ _).alloc (Nat.le_refl _) _)
  obtain ⟨W0, eW0⟩ : ∃ W, w.alloc (.cells #[.int .i64 0, .int .i64 0, .int .i64 0, .bool false] 90) = W := ⟨_, rfl⟩
  have hA1 := Lib.hid (hA.out.below bb.out)
  have hg : Hid (W0.heap[w.heap.size]? = some (.cells #[.int .i64 0, .int .i64 0, .int .i64 0, .bool false] 90 (0, 0))) := Lib.hid (by rw [← eW0]; exact heap_alloc_new w _)
  rw [eW0] at bb hA1
  have HU := Lib.hid (Used_any c s v L E slot W0 hA1)
  have hbn := build_none
  obtain ⟨⟨g0, g1, g2, g3⟩, y0, y1, y2, y3⟩ := row4 hg.out
  rcases hf : findQ slot st.Q 0 with _ | ⟨k, A, e, C⟩
  · have eP : getO st slot = (zeroE, false) := by unfold getO; rw [hf]
    rw [eP]
    rw [hI.out.noSlot hf] at HU
    have hg2 := Lib.hid (set4 (.int .i64 0) (.int .i64 0) (.int .i64 0) (.bool false) hg.out)
    have b2 : Hid (Below w.heap.size w ((((W0.setCell ⟨w.heap.size, 0, none⟩ (.int .i64 0)).setCell ⟨w.heap.size, 1, none⟩ (.int .i64 0)).setCell ⟨w.heap.size, 2, none⟩ (.int .i64 0)).setCell ⟨w.heap.size, 3, none⟩ (.bool false))) :=
      Lib.hid ((((bb.out.setCell (p := ⟨w.heap.size, 0, none⟩) (Nat.le_refl _) _).setCell (p := ⟨w.heap.size, 1, none⟩) (Nat.le_refl _) _).setCell (p := ⟨w.heap.size, 2, none⟩) (Nat.le_refl _) _).setCell (p := ⟨w.heap.size, 3, none⟩) (Nat.le_refl _) _)
    clear eP hf hA hI hB eF hA1
    replace eW0 := Lib.hid eW0
    go_enter Try.func61, Try.ntmps61
    go_upto_region 1 with (fail)
    rw [eW0.out]
    go_wp2_with fail
    refine HU.out.mono ?_
    rintro e w' ⟨rfl, rfl⟩
    go_wp2_with fail
    refine bodyPost_ret (results_cell_row_tmp rfl _ _ w.heap.size 90 _ (0, 0) _ rfl hg2.out rfl rfl rfl) rfl ?_
    exact ⟨rfl, b2.out⟩
  · obtain ⟨hl, es, hL, n1, n2, hi, sL, kE, hu⟩ := hI.out.atSlot hf
    have eP : getO st slot = (e, true) := by unfold getO; rw [hf]
    rw [eP]
    rw [hu] at HU
    subst es
    obtain ⟨x0, x1, f0, f1⟩ := hA1.out.cells
    obtain ⟨⟨p0, p1, p2, p3, p4, p5, p6⟩, -⟩ := hA1.out.seven hL
    have hr := hA.out.room
    obtain ⟨N, eN⟩ : ∃ N, L.length = N := ⟨_, rfl⟩
    rw [eN] at x0 hr sL
    have hg2 := Lib.hid (set4 (.int .i64 (e.s : Int)) (.int .i64 e.i) (.int .i64 e.n) (.bool e.t) hg.out)
    have b2 : Hid (Below w.heap.size w ((((W0.setCell ⟨w.heap.size, 0, none⟩ (.int .i64 (e.s : Int))).setCell ⟨w.heap.size, 1, none⟩ (.int .i64 e.i)).setCell ⟨w.heap.size, 2, none⟩ (.int .i64 e.n)).setCell ⟨w.heap.size, 3, none⟩ (.bool e.t))) :=
      Lib.hid ((((bb.out.setCell (p := ⟨w.heap.size, 0, none⟩) (Nat.le_refl _) _).setCell (p := ⟨w.heap.size, 1, none⟩) (Nat.le_refl _) _).setCell (p := ⟨w.heap.size, 2, none⟩) (Nat.le_refl _) _).setCell (p := ⟨w.heap.size, 3, none⟩) (Nat.le_refl _) _)
    obtain ⟨m, i, x, t⟩ := e
    simp only at HU p0 p1 p2 p3 p4 p5 p6 sL n1 n2 hg2 b2 ⊢
    clear eP hf hA hI hB eF hA1 hl hL hu eN
    replace eW0 := Lib.hid eW0
    go_enter Try.func61, Try.ntmps61
    go_upto_region 1 with (fail)
    rw [eW0.out]
    go_wp2_with fail
    refine HU.out.mono ?_
    rintro e w' ⟨rfl, rfl⟩
    go_wp2_with fail
    refine bodyPost_ret (results_cell_row_tmp rfl _ _ w.heap.size 90 _ (0, 0) _ rfl hg2.out rfl rfl rfl) rfl ?_
    exact ⟨rfl, b2.out⟩
theorem count_take {U : List Bool} {k : Nat} {b : Bool} (h : U[k]? = some b) (x : Bool) : (U.take (k + 1)).count x = (U.take k).count x + if b = x then 1 else 0 := by
  rw [List.take_add_one, h]
  simp [List.count_append, List.count_cons]
set_option maxRecDepth 100000 in
set_option maxHeartbeats 2000000 in
theorem Free_any (B c : Nat) (F : Nat → Prop) (st : St) (w : World) (hA0 : Hid (AR B c F st w)) :
    Calls Try.prog 34 #[.pointer (some ⟨c, 0, none⟩)] w fun e w' => e = .returned (.int .i64 (st.U.count false : Nat)) ∧ w = w' := by
  obtain ⟨s, v, L, E, eF, hA, hI, hB⟩ := hA0.out
  replace hA := Lib.hid hA
  replace hI := Lib.hid hI
  have hr := hA.out.room
  obtain ⟨x0, x1, f0, f1⟩ := hA.out.cells
  obtain ⟨N, eN⟩ : ∃ N, L.length = N := ⟨_, rfl⟩
  rw [eN] at hr x0
  have eU : Hid (st.U.length = N) := Lib.hid (by rw [← hI.out.len, eN])
  have E1 : Hid (((0 : Nat) : Nat) = (st.U.take 0).count false) := Lib.hid (by simp)
  have hX : Hid (st.U.count false = (st.U.take N).count false) := Lib.hid (by rw [List.take_of_length_le (by rw [eU.out]; omega)])
  obtain ⟨X, eX⟩ : ∃ X, st.U.count false = X := ⟨_, rfl⟩
  rw [eX] at hX ⊢
  clear eX eN eF hB hA0
  go_enter Try.func34, Try.ntmps34
  go_wp2_with fail
  go_loop [3, 10] (fun n i => ∃ k f : Nat, i = .int .i64 k ∧ n = .int .i64 f ∧ k ≤ N ∧ f ≤ k ∧ Hid (f = (st.U.take k).count false)) (fun _ i => (N - intOf i).toNat)
  case atStart => exact ⟨0, 0, rfl, rfl, by omega, by omega, E1⟩
  case round =>
    clear E1
    obtain ⟨k, f, rfl, rfl, hk, hfk, hE⟩ := hrel
    by_cases hlt : k < N
    · have d1 : decide (k < N) = true := decide_eq_true hlt
      obtain ⟨b, hb⟩ : ∃ b, st.U[k]? = some b := ⟨_, List.getElem?_eq_getElem (by rw [eU.out]; exact hlt)⟩
      have HU := Lib.hid (Used_any c s v L E (k : Int) w hA)
      rw [hI.out.used hb] at HU
      have hct := count_take hb false
      cases b with
      | true =>
        have hE2 : Hid (f = (st.U.take (k + 1)).count false) := Lib.hid (by rw [hct, hE.out]; simp)
        clear hb hE hct
        go_wp2_with fail
        refine HU.out.mono ?_
        rintro e w' ⟨rfl, rfl⟩
        go_wp2_with fail
        go_round
        case rel => exact ⟨k + 1, f, by go_num, rfl, by omega, by omega, hE2⟩
        case measure => simp [intOf]; omega
      | false =>
        have hE2 : Hid (f + 1 = (st.U.take (k + 1)).count false) := Lib.hid (by rw [hct, hE.out]; simp)
        clear hb hE hct
        go_wp2_with fail
        refine HU.out.mono ?_
        rintro e w' ⟨rfl, rfl⟩
        go_wp2_with fail
        go_round
        case rel => exact ⟨k + 1, f + 1, by go_num, by go_num, by omega, by omega, hE2⟩
        case measure => simp [intOf]; omega
    · obtain rfl : k = N := by omega
      have d1 : decide (k < k) = false := by simp
      have hE2 : Hid (X = f) := Lib.hid (by rw [hX.out, hE.out])
      clear hE hX
      go_wp2_with fail
      go_ret
      exact ⟨by rw [hE2.out]; rfl, rfl⟩
end Go.Proofs.Ytlknlicokacoiaa
