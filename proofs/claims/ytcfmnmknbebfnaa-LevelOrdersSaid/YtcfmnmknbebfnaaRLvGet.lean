/-
  Contract of the document's arena: Get.
-/
import Derived.Test.YtcfmnmknbebfnaaRLvOps
namespace Go.Proofs.Ytcfmnmknbebfnaa
open Go.RowKit
set_option linter.unusedVariables false
set_option linter.unusedSimpArgs false

theorem build_rnone : ∀ W : World, (Instr.build 66 #[]).run Try.prog W = .ok (.agg #[.int .i64 0, .int .i64 0, .int .i64 0, .bool false]) W := fun W => by kernel_rfl
set_option maxRecDepth 100000 in
set_option maxHeartbeats 2000000 in
theorem RGet_any (B c : Nat) (F : Nat → Prop) (st : St) (slot : Int) (w : World) (hA0 : Hid (RA B c F st w)) (hQ : st.Q.length ≤ 1000000) :
    Calls Try.prog 30 #[.pointer (some ⟨c, 0, none⟩), .int .i64 slot] w fun e w' => e = .returned (.tuple #[(getO st slot).1.val, .bool (getO st slot).2]) ∧ Below w.heap.size w w' := by
  obtain ⟨u, q, V, eF, hA, hO, hB⟩ := hA0.out
  replace hA := Lib.hid hA
  have bb : Hid (Below w.heap.size w (w.alloc (.cells #[.int .i64 0, .int .i64 0, .int .i64 0, .bool false] 66))) := Lib.hid ((Below.refl _ _).alloc (Nat.le_refl _) _)
  obtain ⟨W0, eW0⟩ : ∃ W, w.alloc (.cells #[.int .i64 0, .int .i64 0, .int .i64 0, .bool false] 66) = W := ⟨_, rfl⟩
  have hA1 := Lib.hid (hA.out.below bb.out)
  have hg : Hid (W0.heap[w.heap.size]? = some (.cells #[.int .i64 0, .int .i64 0, .int .i64 0, .bool false] 66 (0, 0))) := Lib.hid (by rw [← eW0]; exact heap_alloc_new w _)
  rw [eW0] at bb hA1
  have HT := Lib.hid (At_any c u q V st.U st.Q slot W0 hA1 hQ (Lib.hid (hO.short' hA.out.room)))
  have hbn := build_rnone
  obtain ⟨⟨g0, g1, g2, g3⟩, y0, y1, y2, y3⟩ := row4 hg.out
  rcases hf : findQ slot st.Q 0 with _ | ⟨k, A, e, C⟩
  · have eP : getO st slot = (zeroE, false) := by unfold getO; rw [hf]
    rw [eP]
    rw [hf, show atV none = .tuple #[.int .i64 0, .int .i64 0, .bool false] from rfl] at HT
    have hg2 := Lib.hid (set4 (.int .i64 0) (.int .i64 0) (.int .i64 0) (.bool false) hg.out)
    have b2 : Hid (Below w.heap.size w ((((W0.setCell ⟨w.heap.size, 0, none⟩ (.int .i64 0)).setCell ⟨w.heap.size, 1, none⟩ (.int .i64 0)).setCell ⟨w.heap.size, 2, none⟩ (.int .i64 0)).setCell ⟨w.heap.size, 3, none⟩ (.bool false))) :=
      Lib.hid ((((bb.out.setCell (p := ⟨w.heap.size, 0, none⟩) (Nat.le_refl _) _).setCell (p := ⟨w.heap.size, 1, none⟩) (Nat.le_refl _) _).setCell (p := ⟨w.heap.size, 2, none⟩) (Nat.le_refl _) _).setCell (p := ⟨w.heap.size, 3, none⟩) (Nat.le_refl _) _)
    clear eP hf hA hB eF hA1 hA0
    replace eW0 := Lib.hid eW0
    go_enter Try.func30, Try.ntmps30
    go_upto_region 1 with (fail)
    rw [eW0.out]
    go_wp2_with fail
    refine HT.out.mono ?_
    rintro e w' ⟨rfl, rfl⟩
    go_wp2_with fail
    refine bodyPost_ret (results_cell_row_tmp rfl _ _ w.heap.size 66 _ (0, 0) _ rfl hg2.out rfl rfl rfl) rfl ?_
    exact ⟨rfl, b2.out⟩
  · obtain ⟨j0, e1, hl, es⟩ := findQ_some hf
    obtain rfl : k = j0 := by omega
    have eP : getO st slot = (e, true) := by unfold getO; rw [hf]
    rw [eP]
    rw [hf, show atV (some (k, A, e, C)) = .tuple #[.int .i64 (k : Int), .int .i64 (A.length : Int), .bool true] from rfl] at HT
    have hj : (A ++ e :: C)[A.length]? = some e := by simp
    obtain ⟨v, hv⟩ : ∃ v, V[k]? = some v := ⟨_, List.getElem?_eq_getElem (by rw [hA.out.len]; exact (List.getElem?_eq_some_iff.1 hl).1)⟩
    obtain ⟨g, cap, eq, gg1, gg2, gg3, m0, -⟩ := hA1.out.queue hv
    obtain ⟨c0, c1, f0, f1⟩ := hA1.out.cells
    obtain ⟨b, cap1, ev, b1, b2, ⟨p0, p1, p2, p3⟩, y⟩ := (hA1.out.rows k v _ hv hl).at hj
    subst ev
    have hlen := hA.out.len
    obtain ⟨n, en⟩ : ∃ n, st.Q.length = n := ⟨_, rfl⟩
    rw [en] at hlen hQ
    rw [hlen] at eq gg1
    rw [eq] at c1
    have hkn : k < n := by rw [← en]; exact (List.getElem?_eq_some_iff.1 hl).1
    obtain ⟨nl, enl⟩ : ∃ n, (A ++ e :: C).length = n := ⟨_, rfl⟩
    obtain ⟨a, ea⟩ : ∃ n, A.length = n := ⟨_, rfl⟩
    have han : a < nl := by rw [← ea, ← enl]; simp
    have hnl : nl ≤ 4096 := by have h1 := hO.short hl; have h2 := hA.out.room; rw [enl] at h1; omega
    rw [enl] at m0 b1
    rw [ea] at HT p0 p1 p2 p3
    have hg2 := Lib.hid (set4 (.int .i64 (e.s : Int)) (.int .i64 e.i) (.int .i64 e.n) (.bool e.t) hg.out)
    have b2 : Hid (Below w.heap.size w ((((W0.setCell ⟨w.heap.size, 0, none⟩ (.int .i64 (e.s : Int))).setCell ⟨w.heap.size, 1, none⟩ (.int .i64 e.i)).setCell ⟨w.heap.size, 2, none⟩ (.int .i64 e.n)).setCell ⟨w.heap.size, 3, none⟩ (.bool e.t))) :=
      Lib.hid ((((bb.out.setCell (p := ⟨w.heap.size, 0, none⟩) (Nat.le_refl _) _).setCell (p := ⟨w.heap.size, 1, none⟩) (Nat.le_refl _) _).setCell (p := ⟨w.heap.size, 2, none⟩) (Nat.le_refl _) _).setCell (p := ⟨w.heap.size, 3, none⟩) (Nat.le_refl _) _)
    obtain ⟨m, i, x, t⟩ := e
    simp only at p0 p1 p2 p3 hg2 b2 ⊢
    replace eq := Lib.hid eq
    clear eP hf hA hB eF hA1 hl hj hv hlen en enl ea y es e1 hA0
    replace eW0 := Lib.hid eW0
    go_enter Try.func30, Try.ntmps30
    go_upto_region 1 with (fail)
    rw [eW0.out]
    go_wp2_with fail
    refine HT.out.mono ?_
    rintro e w' ⟨rfl, rfl⟩
    go_wp2_with fail
    refine bodyPost_ret (results_cell_row_tmp rfl _ _ w.heap.size 66 _ (0, 0) _ rfl hg2.out rfl rfl rfl) rfl ?_
    exact ⟨rfl, b2.out⟩
end Go.Proofs.Ytcfmnmknbebfnaa
