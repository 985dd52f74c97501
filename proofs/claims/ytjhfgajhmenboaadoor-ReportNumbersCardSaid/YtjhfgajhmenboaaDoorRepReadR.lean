/-
  Contract: Read, of the document.
-/
import Derived.Test.YtjhfgajhmenboaaDoorRepRead1
import Derived.Test.YtjhfgajhmenboaaDoorRepDecR
namespace Go.Proofs.YtjhfgajhmenboaaDoor
open Go.RowKit
set_option linter.unusedVariables false
set_option linter.unusedSimpArgs false

set_option maxRecDepth 100000 in
set_option maxHeartbeats 1000000 in
theorem RRead_all (A : Option Addr) (n cap : Nat) (l : List UInt8) (w : World) (hn : n ≤ 1000000) (hc1 : n ≤ cap) (hc2 : cap ≤ 9223372036854775807) (hA : A = none → cap = 0) (h : Hid (HB w A n l)) :
    Calls Tryd.prog 34 #[.slice A n cap] w fun e w' => ∃ v, e = .returned (.tuple #[v, .int .i64 (readL l).2]) ∧ RR w' w.heap.size v (readL l).1 ∧ Below w.heap.size w w' := by
  obtain ⟨i0, hi0, hz0, hz1, hz2⟩ := info_parts info_rep
  have hL := Lib.hid h.out.1
  have b1 : Hid (Below w.heap.size w w) := Lib.hid (Below.refl _ _)
  have R1 : Hid (RR w w.heap.size (.slice none 0 0) []) := Lib.hid (rr_nil _ _)
  obtain ⟨g, eg⟩ : ∃ g, w.heap.size = g := ⟨_, rfl⟩
  rw [eg] at R1
  have eg := Lib.hid eg
  have E1 : Hid (readL l = ([] ++ (rdFrom l (n + 1) 0).1, (rdFrom l (n + 1) 0).2)) := Lib.hid (by unfold readL; rw [hL.out, List.nil_append])
  go_enter Tryd.func34, Tryd.ntmps34
  go_wp2_with fail
  go_loopw [4, 5] (fun v i wr => ∃ (acc : List Q) (k f : Nat), i = .int .i64 k ∧ k ≤ n ∧ n + 1 ≤ f + k ∧ acc.length ≤ k ∧ Hid (RR wr g v acc) ∧ Hid (readL l = (acc ++ (rdFrom l f k).1, (rdFrom l f k).2)) ∧ Hid (Below w.heap.size w wr)) (fun _ i _ => (n - intOf i).toNat)
  case atStart => exact ⟨[], 0, n + 1, rfl, by omega, by omega, Nat.zero_le _, R1, E1, b1⟩
  case round =>
    clear R1 b1 E1
    obtain ⟨acc, k, f, rfl, hk, hf, hac, hR, hE, hW⟩ := hrel
    by_cases hlt : k < n
    · have d1 : decide ((k : Int) < (n : Int)) = true := decide_eq_true (by omega)
      obtain ⟨f', rfl⟩ : ∃ f', f = f' + 1 := ⟨f - 1, by omega⟩
      have hkl : k < l.length := by rw [hL.out]; exact hlt
      have hin := Lib.hid (h.out.below hW.out)
      have hbad := Lib.hid (fun e => rdFrom_bad (f := f') hkl e)
      have hform := Lib.hid (fun e1 e2 => rdFrom_form (f := f') hkl e1 e2)
      have hnext := Lib.hid (fun e1 e2 => rdFrom_next (f := f') hkl e1 e2)
      have hon := Lib.hid (fun e => openR_on (l := l) (k := k) (by omega) e)
      go_wp2_with fail
      refine (RefOpen_any A n cap l (k : Int) wr (by omega) hc1 hc2 hin).mono ?_
      rintro e w2 ⟨v2, rfl, r2, b2⟩
      have R2 := Lib.hid (hR.out.keep b2)
      have B2 := Lib.hid (below_up hW.out b2)
      obtain ⟨A2, n2, c2, rfl, H2, h21, h22, h23, h24⟩ := r2.slice
      have S2 := Lib.hid r2
      obtain ⟨X, E, z, eo⟩ : ∃ X E z, openR l (k : Int) = (X, E, z) := ⟨_, _, _, rfl⟩
      rw [eo] at H2 hbad hform hnext hon h24 S2 ⊢
      simp only at H2 hbad hform hnext hon h24 S2 ⊢
      clear eo r2 b2 hR hW hin hkl
      have H2 := Lib.hid H2
      by_cases hz : z = 0
      · subst hz
        have ho := hon.out (by first | rfl | trivial)
        obtain ⟨ho1, ho2, ho3⟩ := ho
        have ho2 : E ≤ n := by rw [← hL.out]; exact ho2
        clear hon hbad
        go_wp2_with fail
        obtain ⟨A2', n2', c2', e2, -, hsrc⟩ := S2.out.src (by omega)
        injection e2 with e21 e22 e23
        subst e21 e22 e23
        have hsrc := Lib.hid hsrc
        refine (RDecode_any A2 n2 c2 X w2 hsrc).mono ?_
        rintro e w3 ⟨rfl, b3⟩
        have R3 := Lib.hid (R2.out.keep b3)
        have B3 := Lib.hid (below_up B2.out b3)
        clear hsrc
        by_cases hd : decOk X
        · rw [decQ_yes hd, decE_yes hd]
          have hnx := Lib.hid (hnext.out (by first | rfl | trivial) hd)
          obtain ⟨r, er⟩ : ∃ r, readQ X = r := ⟨_, rfl⟩
          rw [er] at hnx ⊢
          clear er hd hnext hform H2 S2 R2 B2 b3
          obtain ⟨k', i', n', s', p', q', l', y'⟩ := r
          rw [show (Q.mk k' i' n' s' p' q' l' y').val = .agg #[.int .i64 k', .int .i64 i', .int .i64 n', .int .i64 s', .int .i64 p', .int .i64 q', .int .i64 l', .int .i64 y'] from rfl]
          go_upto_region 8 with (fail)
          obtain ⟨w4, ew4⟩ : ∃ W, w3.alloc (.cells #[.int .i64 k', .int .i64 i', .int .i64 n', .int .i64 s', .int .i64 p', .int .i64 q', .int .i64 l', .int .i64 y'] 25) = W := ⟨_, rfl⟩
          have R4 : Hid (RR w4 g u4 acc) := Lib.hid (by rw [← ew4]; exact R3.out.only (alloc_only w3 _) (fun _ _ e => e))
          have B4 : Hid (Below w.heap.size w w4) := Lib.hid (by rw [← ew4]; exact B3.out.alloc B3.out.size _)
          obtain ⟨gb, egb⟩ : ∃ gb, w3.heap.size = gb := ⟨_, rfl⟩
          have C4 : Hid (w4.heap[gb]? = some (.cells #[.int .i64 k', .int .i64 i', .int .i64 n', .int .i64 s', .int .i64 p', .int .i64 q', .int .i64 l', .int .i64 y'] 25 (0, 0))) := Lib.hid (by rw [← ew4, ← egb]; exact heap_alloc_new w3 _)
          show Code.wp _ _ _ _ (w3.alloc (.cells #[.int .i64 k', .int .i64 i', .int .i64 n', .int .i64 s', .int .i64 p', .int .i64 q', .int .i64 l', .int .i64 y'] 25))
          rw [ew4, egb]
          clear ew4 egb R3 B3
          obtain ⟨j0, j1, j2, j3, j4, j5, j6, j7⟩ := rep_at C4.out
          have R5 : Hid (RR (w4.alloc (.cells #[.int .i64 k', .int .i64 i', .int .i64 n', .int .i64 s', .int .i64 p', .int .i64 q', .int .i64 l', .int .i64 y'] 25)) g u4 acc) := Lib.hid (R4.out.only (alloc_only w4 _) (fun _ _ e => e))
          have C5 : Hid ((w4.alloc (.cells #[.int .i64 k', .int .i64 i', .int .i64 n', .int .i64 s', .int .i64 p', .int .i64 q', .int .i64 l', .int .i64 y'] 25)).heap[w4.heap.size]? = some (.cells (Q.mk k' i' n' s' p' q' l' y').cells 25 (0, 0))) := Lib.hid (heap_alloc_new w4 _)
          have bz5 : g ≤ (w4.alloc (.cells #[.int .i64 k', .int .i64 i', .int .i64 n', .int .i64 s', .int .i64 p', .int .i64 q', .int .i64 l', .int .i64 y'] 25)).heap.size := by have := B4.out.size; rw [eg.out] at this; simp; omega
          have bz5 := Lib.hid bz5
          go_wp2_with (at_builtin; refine wpList_onto_r (by rfl) (.tmp 34) (.tmp 36) 33 (by rfl) g i0 Tryd.underlying33 hi0 hz0 hz1 hz2 _ _ (by rfl) R5.out w4.heap.size 1 ⟨k', i', n', s', p', q', l', y'⟩ 25 (by rfl) C5.out (by omega) bz5.out ?_)
          intro v6 w6 r6 g6 o6
          have B6 := Lib.hid ((B4.out.alloc B4.out.size _).grown g6 (by have := B4.out.size; simp; omega) (fun q hq => by rw [eg.out]; exact (R5.out.blk hq).1))
          have R6 := Lib.hid r6
          have hE6 : Hid (readL l = ((acc ++ [Q.mk k' i' n' s' p' q' l' y']) ++ (rdFrom l f' E).1, (rdFrom l f' E).2)) := Lib.hid (by rw [hE.out, hnx.out]; simp)
          have hac6 : (acc ++ [Q.mk k' i' n' s' p' q' l' y']).length ≤ E := by simp; omega
          clear r6 g6 o6 R4 R5 C4 C5 B4 bz5 j0 j1 j2 j3 j4 j5 j6 j7 hE hnx
          go_wp2_with fail
          go_roundw
          case rel => exact ⟨_, E, f', rfl, by omega, by omega, hac6, R6, hE6, B6⟩
          case measure => simp [intOf]; omega
        · rw [decQ_no hd, decE_no hd]
          have hfo := hform.out (by first | rfl | trivial) hd
          have hfin : Hid (readL l = (acc, 12)) := Lib.hid (by rw [hE.out, hfo, List.append_nil])
          clear hd hnext hform H2 S2 R2 B2 b3 hfo hE
          rw [show zeroQ.val = .agg #[.int .i64 0, .int .i64 0, .int .i64 0, .int .i64 0, .int .i64 0, .int .i64 0, .int .i64 0, .int .i64 0] from rfl]
          have R4 : Hid (RR (w3.alloc (.cells #[.int .i64 0, .int .i64 0, .int .i64 0, .int .i64 0, .int .i64 0, .int .i64 0, .int .i64 0, .int .i64 0] 25)) g u4 acc) := Lib.hid (R3.out.only (alloc_only w3 _) (fun _ _ e => e))
          have B4 : Hid (Below w.heap.size w (w3.alloc (.cells #[.int .i64 0, .int .i64 0, .int .i64 0, .int .i64 0, .int .i64 0, .int .i64 0, .int .i64 0, .int .i64 0] 25))) := Lib.hid (B3.out.alloc B3.out.size _)
          go_wp2_with fail
          go_ret2
          exact ⟨_, by rw [hfin.out]; rfl, by rw [hfin.out, eg.out]; exact R4.out, B4.out⟩
      · have hzz := Lib.hid (hbad.out hz)
        have i1 : ((z : Int) != 0) = true := by simpa using hz
        have hfin : Hid (readL l = (acc, z)) := Lib.hid (by rw [hE.out, hzz.out, List.append_nil])
        clear hbad hform hnext hon H2 S2 hzz hE hz
        go_wp2_with fail
        go_ret2
        exact ⟨_, by rw [hfin.out]; rfl, by rw [hfin.out, eg.out]; exact R2.out, B2.out⟩
    · obtain rfl : k = n := by omega
      have d1 : decide ((k : Int) < (k : Int)) = false := by simp
      have hfin : Hid (readL l = (acc, 0)) := Lib.hid (by rw [hE.out, rdFrom_end (by rw [hL.out]; omega), List.append_nil])
      clear hE
      go_wp2_with fail
      go_ret2
      exact ⟨_, by rw [hfin.out]; rfl, by rw [hfin.out, eg.out]; exact hR.out, hW.out⟩
end Go.Proofs.YtjhfgajhmenboaaDoor
