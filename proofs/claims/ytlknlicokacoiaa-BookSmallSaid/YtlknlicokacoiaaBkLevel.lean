/-
  Contract: level, of book.
-/
import Derived.Test.YtlknlicokacoiaaBkWb
namespace Go.Proofs.Ytlknlicokacoiaa
open Go.RowKit
set_option linter.unusedVariables false
set_option linter.unusedSimpArgs false

def lvR (st : St) (r : Int × Nat) : Lv := ⟨r.1, sumN (lq st r.2), ((lq st r.2).length : Int)⟩
theorem build_level (p n c : Int) : ∀ W : World, (Instr.build 47 #[(0, .int .i64 p), (1, .int .i64 n), (2, .int .i64 c)]).run Try.prog W = .ok (.agg #[.int .i64 p, .int .i64 n, .int .i64 c]) W := fun W => by kernel_rfl
def rowVal (r : Int × Nat) : Value := .agg #[.int .i64 r.1, .int .i64 (r.2 : Int)]
set_option maxRecDepth 100000 in
set_option maxHeartbeats 1000000 in
theorem Level_any (B b a : Nat) (F : Nat → Prop) (V : Nat → Value) (vs : Value) (c : Cs) (r : Int × Nat) (w : World) (hW : Hid (Wb B b a F V vs c w)) (hQ : c.st.Q.length ≤ 1000000) :
    Calls Try.prog 46 #[.pointer (some ⟨b, 0, none⟩), rowVal r] w fun e' w' => e' = .returned (lvR c.st r).val ∧ Below w.heap.size w w' := by
  obtain ⟨p, q⟩ := r
  obtain ⟨W0, eW0⟩ : ∃ W, w.alloc (.cells #[.int .i64 p, .int .i64 (q : Int)] 86) = W := ⟨_, rfl⟩
  obtain ⟨g, eg⟩ : ∃ g, w.heap.size = g := ⟨_, rfl⟩
  obtain ⟨g1, eg1⟩ : ∃ g, W0.heap.size = g := ⟨_, rfl⟩
  obtain ⟨W1, eW1⟩ : ∃ W, W0.alloc (.cells #[.int .i64 0, .int .i64 0, .int .i64 0] 47) = W := ⟨_, rfl⟩
  have b0 : Below w.heap.size w W0 := by rw [← eW0]; exact (Below.refl _ w).alloc (Nat.le_refl _) _
  have b1 : Below w.heap.size w W1 := by rw [← eW1]; exact b0.alloc b0.size _
  have hg : W0.heap[g]? = some (.cells #[.int .i64 p, .int .i64 (q : Int)] 86 (0, 0)) := by rw [← eW0, ← eg]; exact heap_alloc_new w _
  have hg1 : W1.heap[g1]? = some (.cells #[.int .i64 0, .int .i64 0, .int .i64 0] 47 (0, 0)) := by rw [← eW1, ← eg1]; exact heap_alloc_new W0 _
  have hg0 : W1.heap[g]? = some (.cells #[.int .i64 p, .int .i64 (q : Int)] 86 (0, 0)) := by rw [← eW1]; exact (heap_alloc_old W0 _ g (Array.getElem?_eq_some_iff.1 hg).1).trans hg
  have hle1 : w.heap.size ≤ g1 := by rw [← eg1]; exact b0.size
  have hlt : g < g1 := by rw [← eg1]; exact (Array.getElem?_eq_some_iff.1 hg).1
  have hW1 := hW.out.below b1
  have hb1 : b ≠ g1 := by have := (hW.out.lt (k := b) (.inr (.inl rfl))).2; omega
  obtain ⟨x0, -⟩ := hW1.bm.arena
  obtain ⟨⟨d0, d1⟩, -⟩ := row2 hg0
  obtain ⟨⟨y0, y1, y2⟩, u0, u1, u2⟩ := row3 hg1
  have HT := Lib.hid (fun q' : Nat => Total_any B a F c.st (q : Int) (W1.drewN q') (Lib.hid (hW1.ar.below ⟨rfl, rfl, rfl, Nat.le_refl _, fun _ _ => rfl⟩)) hQ)
  have HC := Lib.hid (fun q' : Nat => Count_any B a F c.st (q : Int) (W1.drewN q') (Lib.hid (hW1.ar.below ⟨rfl, rfl, rfl, Nat.le_refl _, fun _ _ => rfl⟩)) hQ)
  rw [listO_nat] at HT HC
  obtain ⟨m, em⟩ : ∃ m, sumN (lq c.st q) = m := ⟨_, rfl⟩
  obtain ⟨l, el⟩ : ∃ l, (lq c.st q).length = l := ⟨_, rfl⟩
  have eR : (lvR c.st (p, q)).val = .agg #[.int .i64 p, .int .i64 m, .int .i64 (l : Int)] := by show Value.agg #[.int .i64 p, .int .i64 (sumN (lq c.st q)), .int .i64 ((lq c.st q).length : Int)] = _; rw [em, el]
  rw [eR]
  rw [em] at HT
  rw [el] at HC
  have hbl := build_level p m (l : Int)
  have q3 := Lib.hid (set3 (.int .i64 p) (.int .i64 m) (.int .i64 (l : Int)) hg1)
  have fin : Hid (Below w.heap.size w (((W1.setCell ⟨g1, 0, none⟩ (.int .i64 p)).setCell ⟨g1, 1, none⟩ (.int .i64 m)).setCell ⟨g1, 2, none⟩ (.int .i64 (l : Int))).drew) :=
    Lib.hid ((((b1.setCell (p := ⟨g1, 0, none⟩) hle1 _).setCell (p := ⟨g1, 1, none⟩) hle1 _).setCell (p := ⟨g1, 2, none⟩) hle1 _).drew)
  have hw0 : (fun W : World => W.cell? ⟨b, 0, none⟩ = some (.pointer (some ⟨a, 0, none⟩)) ∧ W.cell? ⟨g, 0, none⟩ = some (.int .i64 p) ∧ W.cell? ⟨g, 1, none⟩ = some (.int .i64 (q : Int))) W1.drew := ⟨x0, d0, d1⟩
  have hw1 : Hid (∀ x y z : Value, (fun W : World => W.cell? ⟨b, 0, none⟩ = some (.pointer (some ⟨a, 0, none⟩)) ∧ W.cell? ⟨g, 0, none⟩ = some (.int .i64 p) ∧ W.cell? ⟨g, 1, none⟩ = some (.int .i64 (q : Int))) (((W1.setCell ⟨g1, 0, none⟩ x).setCell ⟨g1, 1, none⟩ y).setCell ⟨g1, 2, none⟩ z).drew) := Lib.hid (fun x y z => by
    have each : ∀ (k j : Nat) (v : Value), k ≠ g1 → W1.cell? ⟨k, j, none⟩ = some v → ((((W1.setCell ⟨g1, 0, none⟩ x).setCell ⟨g1, 1, none⟩ y).setCell ⟨g1, 2, none⟩ z).drew).cell? ⟨k, j, none⟩ = some v := fun k j v hk hc => by
      refine (World.cell?_of_block (a := ⟨k, j, none⟩) ?_).trans hc
      show (((W1.setCell ⟨g1, 0, none⟩ x).setCell ⟨g1, 1, none⟩ y).setCell ⟨g1, 2, none⟩ z).heap[k]? = _
      rw [heap_setCell_other _ ⟨g1, 2, none⟩ k _ hk, heap_setCell_other _ ⟨g1, 1, none⟩ k _ hk, heap_setCell_other _ ⟨g1, 0, none⟩ k _ hk]
    exact ⟨each b 0 _ hb1 x0, each g 0 _ (by omega) d0, each g 1 _ (by omega) d1⟩)
  replace eW0 := Lib.hid eW0
  replace eW1 := Lib.hid eW1
  replace eg := Lib.hid eg
  have eg1' : Hid (w.heap.size + 1 = g1) := Lib.hid (by rw [← eg1, ← eW0.out, World.size_alloc])
  clear eg1
  clear b0 b1 hg hg1 hg0 hW1 em el eR
  show Calls Try.prog _ #[_, .agg #[.int .i64 p, .int .i64 (q : Int)]] _ _
  go_enter Try.func46, Try.ntmps46
  go_upto_region 1 with (fail)
  rw [eW0.out, eW1.out, eg1'.out, eg.out]
  go_region_held3 (fun W : World => W.cell? ⟨b, 0, none⟩ = some (.pointer (some ⟨a, 0, none⟩)) ∧ W.cell? ⟨g, 0, none⟩ = some (.int .i64 p) ∧ W.cell? ⟨g, 1, none⟩ = some (.int .i64 (q : Int))) (first | with_reducible assumption | exact hw0 | exact hw1.out _ _ _) (first | (go_at_call 65; refine (HT.out 1).mono ?_; rintro e w4 ⟨rfl, rfl⟩) | (go_at_call 63; refine (HC.out 1).mono ?_; rintro e w4 ⟨rfl, rfl⟩))
  go_wp2_with fail
  refine bodyPost_ret (results_cell_row rfl _ _ g1 47 _ (0, 0) _ rfl q3.out rfl rfl rfl) rfl ?_
  exact ⟨rfl, fin.out⟩
end Go.Proofs.Ytlknlicokacoiaa
