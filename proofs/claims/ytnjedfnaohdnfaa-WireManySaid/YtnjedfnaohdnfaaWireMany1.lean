/-
  The law WireMany: one way to the list's length.
-/
import Derived.Test.YtnjedfnaohdnfaaManyFacts
namespace Go.Proofs.Ytnjedfnaohdnfaa
open Go.RowKit
set_option linter.unusedVariables false
set_option linter.unusedSimpArgs false

set_option maxRecDepth 100000 in
set_option maxHeartbeats 1600000 in
theorem Many_way1 (a0 : Option Addr) (len0 cap0 : Nat) (L : Nat → List UInt8) (cut : Int) (w : World)
    (c0 : cap0 ≤ 9223372036854775807) (l0 : len0 ≤ cap0) (hP : Hid (Grid w a0 len0 L)) (t1 : -9223372036854775808 ≤ cut) (t2 : cut ≤ 9223372036854775807) (h0 : len0 ≤ 12) :
    Calls Try.prog 7 #[.slice a0 len0 cap0, .int .i64 cut] w fun e w' => e = .returned (.bool true) ∧ Below w.heap.size w w' := by
  obtain ⟨i0, hi0, hz0, hz1, hz2⟩ := info_parts info_u8
  obtain ⟨i1, hi1, hy0, hy1, hy2⟩ := info_parts info_int
  have b1 : Hid (Below w.heap.size w w) := Lib.hid (Below.refl _ _)
  have R1 : Hid (RB w w.heap.size (.slice none 0 0) (catM L 0)) := Lib.hid (by rw [catM_zero]; exact rb_nil _ _)
  have E1 : Hid (IR w w.heap.size (.slice none 0 0) (endsL L 0)) := Lib.hid (by rw [endsL_zero]; exact ir_nil _ _)
  go_enter Try.func7, Try.ntmps7
  obtain ⟨g, eg⟩ : ∃ g, w.heap.size = g := ⟨_, rfl⟩
  rw [eg] at R1 E1
  have eg := Lib.hid eg
  go_wp2_with fail
  go_loopw [5, 6, 7] (fun r s i wr => ∃ k : Nat, i = .int .i64 k ∧ k ≤ len0 ∧ Hid (RB wr g r (catM L k)) ∧ Hid (IR wr g s (endsL L k)) ∧ Hid (∀ q, r.ownBlock = some q → s.ownBlock ≠ some q) ∧ Hid (Below w.heap.size w wr)) (fun _ _ i _ => (len0 - intOf i).toNat)
  case atStart => exact ⟨0, rfl, by omega, R1, E1, Lib.hid (fun q e => by cases e), b1⟩
  case round =>
    clear R1 E1 b1
    obtain ⟨k, rfl, hk, hR, hE, hS, hW⟩ := hrel
    by_cases hlt : k < len0
    · have d1 : decide ((k : Int) < (len0 : Int)) = true := decide_eq_true (by omega)
      have d2 : decide ((k : Int) < 12) = true := decide_eq_true (by omega)
      have d3 : (k : Int) < (len0 : Int) := by omega
      obtain ⟨gb, go, A, n, c, rfl, k1, HA, hn, hc, hA0⟩ := hP.out.below hW.out k (by omega)
      have HL := HA.take (k := min n 100) (by omega)
      rw [take_min HA.1] at HL
      have HL := Lib.hid HL
      have HA := Lib.hid HA
      have hcl := catM_len L k
      have hnx := Lib.hid (catM_next L k)
      have hen := Lib.hid (endsL_next L k)
      have hel := endsL_len L k
      obtain ⟨mn, emn⟩ : ∃ mn, min n 100 = mn := ⟨_, rfl⟩
      have hcut := KCut_any A n c 100 wr (by omega) (by omega) hn hc (fun h => by obtain ⟨b, off, e, _⟩ := HA.out.2 h; exact ⟨b, off, e⟩)
      rw [emn] at HL hcut
      have hmn : mn ≤ 100 := by omega
      have hcut := Lib.hid hcut
      clear emn
      go_wp2_with fail
      refine hcut.out.mono ?_
      rintro e wr ⟨rfl, rfl⟩
      go_wp2_with fail
      refine (Frame_any A mn c ((L k).take 100) wr (by omega) hA0 HL).mono ?_
      rintro e w2 ⟨v2, rfl, r2, b2⟩
      have hR2 := Lib.hid (hR.out.only (only_below b2) (fun _ _ e => e))
      have hE2 := Lib.hid (hE.out.only (only_below b2) (fun _ _ e => e))
      have B2 := Lib.hid (below_up hW.out b2)
      obtain ⟨A2, n2, c2, rfl, H2, h21, h22, h23, h24⟩ := r2.slice
      have hfl := frameL_len ((L k).take 100)
      have htl := take100_len (L k)
      have H2 := Lib.hid H2
      have bz2 : g ≤ w2.heap.size := by rw [← eg.out]; exact B2.out.size
      clear b2 r2 hR hE hW HA HL k1
      go_wp2_with (at_builtin; refine wpList_onto_b (by rfl) (.tmp 40) (.tmp 41) 22 (by rfl) g i0 Try.underlying22 hi0 hz0 hz1 hz2 _ _ (by rfl) hR2.out A2 n2 c2 (frameL ((L k).take 100)) (by rfl) H2.out h21 (by omega) bz2 ?_)
      intro v3 w3 r3 g3 o3
      have B3 := Lib.hid (B2.out.grown g3 B2.out.size (fun q hq => by rw [eg.out]; exact (hR2.out.blk hq).1))
      have hE3 := Lib.hid (hE2.out.only (only_grown g3) (fun q hq e => hS.out q e.symm hq))
      have hS3 : Hid (∀ q, v3.ownBlock = some q → u6.ownBlock ≠ some q) := Lib.hid (fun q hq e => by
        rcases o3 with h | h
        · rw [h] at hq; exact hS.out q hq e
        · rw [h] at hq
          injection hq with hq
          have := (hE2.out.blk e).2
          omega)
      rw [← hnx.out] at r3
      obtain ⟨A3, n3, c3, rfl, -, -, -, -, h34⟩ := r3.slice
      have r3 := Lib.hid r3
      have hE4 := Lib.hid (hE3.out.only (alloc_only w3 (.cells #[.int .i64 (n3 : Int)] 3)) (fun _ _ e => e))
      have kc : (w3.alloc (.cells #[.int .i64 (n3 : Int)] 3)).cell? ⟨w3.heap.size, 0, none⟩ = some (.int .i64 (n3 : Int)) := by rw [Lib.cell_of_heap (heap_alloc_new w3 _)]; rfl
      have kc := Lib.hid kc
      have bz3 : g ≤ w3.heap.size + 1 := by have := B3.out.size; rw [eg.out] at this; omega
      have hen3 : endsL L (k + 1) = endsL L k ++ [(n3 : Int)] := by rw [hen.out, h34]
      have hen3 := Lib.hid hen3
      clear g3 o3 hR2 hE2 H2 h21 h22 h23 h24 B2 bz2
      go_wp2_with (at_builtin; refine wpList_onto_i (by rfl) (.tmp 43) (.tmp 46) 37 (by rfl) g i1 Try.underlying37 hi1 hy0 hy1 hy2 _ _ (by rfl) hE4.out ⟨w3.heap.size, 0, none⟩ 1 (n3 : Int) (by rfl) kc.out (by omega) (by simpa using bz3) ?_)
      intro v6 w6 r6 g6 o6
      rw [← hen3.out] at r6
      have r6 := Lib.hid r6
      have B6 := Lib.hid ((B3.out.alloc B3.out.size _).grown g6 (by have := B3.out.size; simp; omega) (fun q hq => by rw [eg.out]; exact (hE4.out.blk hq).1))
      have R6 := Lib.hid ((r3.out.only (alloc_only w3 (.cells #[.int .i64 (n3 : Int)] 3)) (fun _ _ e => e)).only (only_grown g6) (fun q hq e => hS3.out q hq e.symm))
      have S6 : Hid (∀ q, (Value.slice A3 n3 c3).ownBlock = some q → v6.ownBlock ≠ some q) := Lib.hid (fun q hq e => by
        have h1 := (r3.out.blk hq).2
        rcases o6 with h | h
        · rw [h] at e; exact hS3.out q hq e
        · rw [h] at e
          injection e with e
          omega)
      clear g6 o6 hE3 hE4 hS3 r3 B3 kc
      go_wp2_with fail
      go_roundw
      case rel => exact ⟨k + 1, by go_num, by omega, R6, r6, S6, B6⟩
      case measure => simp [intOf]; omega
    · obtain rfl : k = len0 := by omega
      have d1 : decide ((k : Int) < (k : Int)) = false := decide_eq_false (by omega)
      obtain ⟨Ab, nb, cb, rfl, Hb, hb1, hb2, hb3, hb4⟩ := hR.out.slice
      obtain ⟨Ae, ne, ce, rfl, he1, he2, he3, he4, he5⟩ := hE.out.slice
      rw [endsL_len] at he1
      subst he1
      have hcl := catM_len L k
      have Hb := Lib.hid Hb
      have he5 := Lib.hid he5
      have hj := withinN_le cut nb
      have hWi := fun W => Within_any cut nb W (by omega) t1 t2
      obtain ⟨kk, ekk⟩ : ∃ kk, withinN cut nb = kk := ⟨_, rfl⟩
      rw [ekk] at hj hWi
      have hWi := Lib.hid hWi
      clear ekk hR hE hS
      go_wp2_with fail
      refine (hWi.out _).mono ?_
      rintro e wN ⟨rfl, rfl⟩
      obtain ⟨T, eT⟩ : ∃ T, catM L k = T := ⟨_, rfl⟩
      rw [eT] at Hb hcl hb4
      have eT := Lib.hid eT
      have bN := Lib.hid (Below.refl wN.heap.size wN)
      go_wp2_with fail
      go_loopw [11, 12] (fun s i wx => ∃ q : Nat, i = .int .i64 q ∧ q ≤ k ∧ s = .int .i64 ((catM L q).length : Nat) ∧ Hid (Below wN.heap.size wN wx)) (fun _ i _ => (k - intOf i).toNat)
      case atStart => exact ⟨0, rfl, by omega, by rw [catM_zero]; rfl, bN⟩
      case round =>
        clear bN
        obtain ⟨q, rfl, hq, rfl, hV⟩ := hrel
        by_cases hlq : q < k
        · have d1 : decide ((q : Int) < (k : Int)) = true := decide_eq_true (by omega)
          have d2 : (q : Int) < (k : Int) := by omega
          have d3 : (q : Int) < (k : Int) := by omega
          obtain ⟨ge, rfl, kE⟩ := he5.out q (by omega)
          rw [endsL_get L hlq] at kE
          have hEl := catM_succ_len L q
          have htl := take100_len (L q)
          obtain ⟨r, hr⟩ := catM_split L hlq
          rw [eT.out] at hr
          obtain ⟨xs, exs⟩ : ∃ xs, catM L q = xs := ⟨_, rfl⟩
          rw [exs] at hEl hr ⊢
          obtain ⟨lq, elq⟩ : ∃ lq, (L q).take 100 = lq := ⟨_, rfl⟩
          rw [elq] at hEl htl hr
          have elq := Lib.hid elq
          have ho := open_frame xs lq r (by omega)
          have hw := open_whole xs lq r (by omega) kk
          have hct := fun h1 h2 => open_cut xs lq (by omega) kk h1 h2 r
          rw [← hr] at ho hw hct
          rw [← hEl] at hw
          have hTl : T.length = xs.length + (lq.length + 6 + r.length) := by rw [hr, List.length_append, List.length_append, frameL_len]
          obtain ⟨P, eP⟩ : ∃ P, xs.length = P := ⟨_, rfl⟩
          obtain ⟨E, eE⟩ : ∃ E, (catM L (q + 1)).length = E := ⟨_, rfl⟩
          have eE' := Lib.hid eE
          rw [eP] at hEl ho hw hct hTl ⊢
          rw [eE] at hEl kE hw
          have ho2 : openR T (P : Int) = (lq, E, 0) := by rw [ho, hEl]
          have ho2 := Lib.hid ho2
          have hEk : E ≤ 140737488355328 := by omega
          have hEP : P ≤ E := by omega
          have hEq := Lib.hid hEl
          clear hEl
          have hw := Lib.hid hw
          have hct := Lib.hid hct
          have Hx := Lib.hid (Hb.out.below hV.out)
          obtain ⟨bb, ob, rfl, -⟩ := Hb.out.2 (by omega)
          have kE2 := (hV.out.cell (p := ⟨ge, q, none⟩) (World.block_lt_of_cell? wN _ kE)).trans kE
          clear hr exs eP ho eE kE
          go_wp2_with fail
          refine (Open_any (some ⟨bb, ob, none⟩) nb cb T (P : Int) wr (by omega) hb2 hb3 (fun e => by cases e) Hx).mono ?_
          rintro e w11 ⟨v11, rfl, R11, b11⟩
          rw [ho2.out] at R11 ⊢
          obtain ⟨A11, n11, c11, rfl, H11, -, -, -, -⟩ := R11.slice
          have V11 := Lib.hid (below_up hV.out b11)
          have H11 := Lib.hid H11
          have Hx11 := Lib.hid (Hx.out.below b11)
          have kE3 := (b11.cell (p := ⟨ge, q, none⟩) (World.block_lt_of_cell? wr _ kE2)).trans kE2
          obtain ⟨gb, go, A, n, c, rfl, kG, HA, hn, hc, hA0⟩ := hP.out.below (below_up hW.out V11.out) q (by omega)
          have HL := HA.take (k := min n 100) (by omega)
          rw [take_min HA.1, elq.out] at HL
          have hcut : ∀ n', Calls Try.prog 18 #[.slice A n c, .int .i64 100] (w11.drewN n') fun e w' => e = .returned (.slice A (min n 100) c) ∧ w' = w11.drewN n' := fun n' => KCut_any A n c 100 (w11.drewN n') (by omega) (by omega) hn hc (fun h => by obtain ⟨b, off, e, _⟩ := HA.2 h; exact ⟨b, off, e⟩)
          obtain ⟨mn, emn⟩ : ∃ mn, min n 100 = mn := ⟨_, rfl⟩
          rw [emn] at HL hcut
          have hs1 : ∀ n', (convert 22 9 (.slice A11 n11 c11)).run Try.prog (w11.drewN n') = .ok (.string (str lq)) (w11.drewN n') := fun n' => (H11.out.drewN n').str c11
          have hs2 : ∀ n', (convert 22 9 (.slice A mn c)).run Try.prog (w11.drewN n') = .ok (.string (str lq)) (w11.drewN n') := fun n' => (HL.drewN n').str c
          have u1 : ((E : Int) != (E : Int)) = false := by simp
          clear emn HL HA hA0 R11 b11 kE2 Hx hV
          go_wp2_with fail
          go_quiet ((go_at_call 18; exact Calls.quiet_of_same (hcut _)))
          clear hcut hs1 hs2 kG
          have hkk : kk ≤ cb := by omega
          go_wp2_with fail
          refine (Open_any (some ⟨bb, ob, none⟩) kk cb (T.take kk) (P : Int) _ (by omega) (by omega) hb3 (fun e => by cases e) (Lib.hid ((Hx11.out.take hj).drewN _))).mono ?_
          rintro e w12 ⟨v12, rfl, R12, b12⟩
          obtain ⟨A12, n12, c12, rfl, H12, -, -, -, l12⟩ := R12.slice
          have V12 := Lib.hid (below_up (below_drewN V11.out nq) b12)
          have b12' := Lib.hid ((below_drewN (Below.refl _ w11) nq).trans b12)
          have kE4 := (b12'.out.cell (p := ⟨ge, q, none⟩) (World.block_lt_of_cell? w11 _ kE3)).trans kE3
          by_cases hPk : kk < P
          · have e1 : decide ((kk : Int) < (P : Int)) = true := decide_eq_true (by omega)
            go_wp2_with fail
            refine (Known_any _).mono ?_
            rintro e w25 ⟨rfl, b⟩
            have b := Lib.hid (below_up (below_up hW.out V12.out) b)
            go_wp2_with fail
            go_ret
            exact ⟨rfl, b.out⟩
          · have e1 : decide ((kk : Int) < (P : Int)) = false := decide_eq_false (by omega)
            by_cases hEk2 : E ≤ kk
            · have hR := hw.out hEk2
              rw [hR] at H12 ⊢
              have hs1 : (convert 22 9 (.slice A12 n12 c12)).run Try.prog w12 = .ok (.string (str lq)) w12 := H12.str c12
              have hs2 : (convert 22 9 (.slice A11 n11 c11)).run Try.prog w12 = .ok (.string (str lq)) w12 := (H11.out.below b12'.out).str c11
              have e2 : decide ((E : Int) ≤ (kk : Int)) = true := decide_eq_true (by omega)
              have e3 : decide ((kk : Int) < (E : Int)) = false := decide_eq_false (by omega)
              clear hR R12 H12 b12
              go_wp2_with fail
              go_roundw
              case rel => exact ⟨q + 1, by go_num, by omega, by rw [eE'.out], V12⟩
              case measure => simp [intOf]; omega
            · have hR := hct.out (by omega) (by have := hEq.out; omega)
              rw [hR] at l12 ⊢
              obtain rfl : n12 = 0 := by rw [← l12]; rfl
              have e2 : decide ((E : Int) ≤ (kk : Int)) = false := decide_eq_false (by omega)
              have e3 : decide ((kk : Int) < (E : Int)) = true := decide_eq_true (by omega)
              clear hR R12 H12 b12
              go_wp2_with fail
              go_roundw
              case rel => exact ⟨q + 1, by go_num, by omega, by rw [eE'.out], V12⟩
              case measure => simp [intOf]; omega
        · obtain rfl : q = k := by omega
          have d1 : decide ((q : Int) < (q : Int)) = false := by simp
          go_wp2_with fail
          refine (Known_any _).mono ?_
          rintro e w25 ⟨rfl, b⟩
          have b := Lib.hid (below_up (below_up hW.out hV.out) b)
          go_wp2_with fail
          go_ret
          exact ⟨rfl, b.out⟩
end Go.Proofs.Ytnjedfnaohdnfaa
