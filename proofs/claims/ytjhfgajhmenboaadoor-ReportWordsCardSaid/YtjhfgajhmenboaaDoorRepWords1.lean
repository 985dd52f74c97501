/-
  The law ReportWords.
-/
import Derived.Test.YtjhfgajhmenboaaDoorRepLaw
import Derived.Test.YtjhfgajhmenboaaDoorRepWords0
import Derived.Laws.BitsAllLaws
namespace Go.Proofs.YtjhfgajhmenboaaDoor
open Go.RowKit
set_option linter.unusedVariables false
set_option linter.unusedSimpArgs false

set_option maxRecDepth 100000 in
set_option maxHeartbeats 6400000 in
theorem Words_walk (k i n s p q l y : Int) (w : World) (hO : (Q.mk k i n s p q l y).Ok) (hT : Hid (Tab w)) :
    Calls Tryd.prog 7 #[.agg #[.int .i64 k, .int .i64 i, .int .i64 n, .int .i64 s, .int .i64 p, .int .i64 q, .int .i64 l, .int .i64 y]] w fun e w' => e = .returned (.bool true) ∧ Below w.heap.size w w' := by
  obtain ⟨i0, hi0, hz0, hz1, hz2⟩ := info_parts info_str
  replace hO := Lib.hid hO
  obtain ⟨w0, ew⟩ : ∃ W, w.alloc (.cells #[.int .i64 k, .int .i64 i, .int .i64 n, .int .i64 s, .int .i64 p, .int .i64 q, .int .i64 l, .int .i64 y] 25) = W := ⟨_, rfl⟩
  obtain ⟨rb, erb⟩ : ∃ rb, w.heap.size = rb := ⟨_, rfl⟩
  have C0 : Hid (w0.heap[rb]? = some (.cells #[.int .i64 k, .int .i64 i, .int .i64 n, .int .i64 s, .int .i64 p, .int .i64 q, .int .i64 l, .int .i64 y] 25 (0, 0))) := Lib.hid (by rw [← ew, ← erb]; exact heap_alloc_new w _)
  have B0 : Hid (Below w.heap.size w w0) := Lib.hid (by rw [← ew]; exact (Below.refl _ w).alloc (Nat.le_refl _) _)
  have hP := Lib.hid (PText_any (Q.mk k i n s p q l y) w0 hO.out (Lib.hid (hT.out.below B0.out)))
  have hlen := textQ_len hO.out
  have hjo := textQ_join (Q.mk k i n s p q l y)
  have hbl := words_blank (Q.mk k i n s p q l y)
  have hnum := fun m (h : m < 7) => words_num (Q.mk k i n s p q l y) h
  have hw0 : (wordsQ (Q.mk k i n s p q l y)).getD 0 [] = wordL k := rfl
  have hwl : (wordsQ (Q.mk k i n s p q l y)).length = 8 := rfl
  obtain ⟨ws, ews⟩ : ∃ ws, wordsQ (Q.mk k i n s p q l y) = ws := ⟨_, rfl⟩
  rw [ews] at hjo hbl hnum hw0 hwl
  obtain ⟨T, eT⟩ : ∃ T, textQ (Q.mk k i n s p q l y) = T := ⟨_, rfl⟩
  rw [eT] at hP hlen hjo
  rw [show (Q.mk k i n s p q l y).val = .agg #[.int .i64 k, .int .i64 i, .int .i64 n, .int .i64 s, .int .i64 p, .int .i64 q, .int .i64 l, .int .i64 y] from rfl] at hP
  replace hjo := Lib.hid hjo
  replace hbl := Lib.hid hbl
  replace hnum := Lib.hid hnum
  replace hw0 := Lib.hid hw0
  obtain ⟨nT, enT⟩ : ∃ nT, T.length = nT := ⟨_, rfl⟩
  have hz : (str T).size = nT := by rw [str_size, enT]
  rw [enT] at hlen
  replace enT := Lib.hid enT
  have hst : Hid (Parted T ws 0 0 0) := Lib.hid (by rw [hjo.out]; exact Parted.start ws (by omega))
  replace hwl := Lib.hid hwl
  replace ew := Lib.hid ew
  replace erb := Lib.hid erb
  clear eT ews
  go_enter Tryd.func7, Tryd.ntmps7
  go_upto_region 1 with (fail)
  rw [ew.out, erb.out]
  obtain ⟨j0, j1, j2, j3, j4, j5, j6, j7⟩ := rep_at C0.out
  go_wp2_with fail
  refine hP.out.mono ?_
  rintro e w1 ⟨rfl, b1⟩
  have B1 := Lib.hid (below_up B0.out b1)
  have C1 := Lib.hid ((b1.block rb (Array.getElem?_eq_some_iff.1 C0.out).1).trans C0.out)
  clear j0 j1 j2 j3 j4 j5 j6 j7 b1 B0 C0 hP
  obtain ⟨g, eg⟩ : ∃ g, w1.heap.size = g := ⟨_, rfl⟩
  have S1 : Hid (SR w1 g (.slice none 0 0) (ws.take 0)) := Lib.hid (by rw [List.take_zero]; exact sr_nil _ _)
  have bb : Hid (Below w1.heap.size w1 w1) := Lib.hid (Below.refl _ _)
  have hgw : g ≤ w1.heap.size := by omega
  replace eg := Lib.hid eg
  go_wp2_with fail
  go_loopw [4, 5, 6] (fun v pv iv wr => ∃ c P I : Nat, pv = .int .i64 P ∧ iv = .int .i64 I ∧ c ≤ 8 ∧ Hid (Parted T ws c P I) ∧ Hid (SR wr g v (ws.take c)) ∧ Hid (Below w1.heap.size w1 wr)) (fun _ _ iv _ => (nT + 1 - intOf iv).toNat)
  case atStart => exact ⟨0, 0, 0, rfl, rfl, by omega, hst, S1, bb⟩
  case round =>
    clear hst S1 bb
    obtain ⟨c, P, I, rfl, rfl, hc, hD, hS, hW⟩ := hrel
    by_cases hI : I ≤ nT
    · have d1 : decide ((I : Int) ≤ (nT : Int)) = true := decide_eq_true (by omega)
      have hc8 : c < 8 := by
        rcases hD.out.ways with h | h
        · have := h.1; have := hwl.out; omega
        · have := h.2; have := enT.out; omega
      by_cases hw : I < P + (ws.getD c []).length
      · obtain ⟨hIT, hne, hnx⟩ := hD.out.within (by rw [hwl.out]; exact hc8) hw (hbl.out c)
        replace hnx := Lib.hid hnx
        have hIn : I < nT := by rw [← enT.out]; exact hIT
        obtain ⟨x, ex⟩ : ∃ x, T.getD I 0 = x := ⟨_, rfl⟩
        rw [ex] at hne
        have hget : ∀ h : I < (str T).size, (str T)[I] = x := fun h => by
          have h3 := ex
          rw [List.getD_eq_getElem?_getD, List.getElem?_eq_getElem hIT] at h3
          exact h3
        have hxn : x.toNat ≠ 32 := fun e => hne (by apply UInt8.toNat_inj.1; rw [e]; rfl)
        have e1 : ((I : Int) == (nT : Int)) = false := by simp; omega
        have e1' : (I == nT) = false := by simp; omega
        have e1'' : ¬ I = nT := by omega
        have e2 : ((x.toNat : Int) == 32) = false := by simp; omega
        have e2' : (x.toNat == 32) = false := by simpa using hxn
        have e3 : (I : Int) < (nT : Int) := by omega
        replace ex := Lib.hid ex
        clear hw hIT hne
        go_wp2_with fail
        go_roundw
        case rel => exact ⟨c, P, I + 1, rfl, by go_num, by omega, hnx, hS, hW⟩
        case measure => simp [intOf] <;> omega
      · have hIe : I = P + (ws.getD c []).length := by
          rcases hD.out.ways with h | h
          · have := h.2.2.1; omega
          · have := h.2; have := enT.out; omega
        obtain ⟨hIT, hPI, htake, hway, hnx⟩ := hD.out.ends (by rw [hwl.out]; exact hc8) hIe
        replace hnx := Lib.hid hnx
        have htk : Hid (ws.take (c + 1) = ws.take c ++ [ws.getD c []]) := Lib.hid (by
          rw [List.take_add_one, List.getElem?_eq_getElem (by rw [hwl.out]; exact hc8)]
          simp [List.getD, List.getElem?_eq_getElem (show c < ws.length by rw [hwl.out]; exact hc8)])
        obtain ⟨a, ea⟩ : ∃ a, ws.getD c [] = a := ⟨_, rfl⟩
        rw [ea] at htake htk
        have hex : (str T).extract P I = str a := by rw [ext_str, htake]
        have p1 : (P : Int) ≤ (I : Int) := by omega
        have p2 : (I : Int) ≤ (nT : Int) := by omega
        rw [enT.out] at hway hIT
        clear hw hIe htake ea
        rcases hway with rfl | ⟨hlt, h32⟩
        · have e1 : ((I : Int) == (I : Int)) = true := by simp
          have HA : Hid (SR (wr.alloc (.cells #[.string (str a)] 9)) g u4 (ws.take c)) := Lib.hid (hS.out.only (alloc_only wr _) (fun _ _ e => e))
          have HC : Hid ((wr.alloc (.cells #[.string (str a)] 9)).cell? ⟨wr.heap.size, 0, none⟩ = some (.string (str a))) := Lib.hid (by rw [Lib.cell_of_heap (heap_alloc_new wr _)]; rfl)
          have bz : g ≤ (wr.alloc (.cells #[.string (str a)] 9)).heap.size := by have := hW.out.size; have := hgw; simp; omega
          replace bz := Lib.hid bz
          go_wp2_with (at_builtin; refine wpList_onto_t (by rfl) (.tmp 31) (.tmp 36) 49 (by rfl) g i0 Tryd.underlying49 hi0 hz0 hz1 hz2 _ _ (by rfl) HA.out ⟨wr.heap.size, 0, none⟩ 1 a (by rfl) HC.out (by rw [List.length_take]; omega) bz.out ?_)
          intro v9 w9 r9 g9
          have B9 := Lib.hid ((hW.out.alloc hW.out.size _).grown g9 (by have := hW.out.size; simp; omega) (fun q hq => by have := (HA.out.blk hq).1; have := eg.out; omega))
          have R9 : Hid (SR w9 g v9 (ws.take (c + 1))) := Lib.hid (by rw [htk.out]; exact r9)
          clear r9 g9 HA HC bz
          go_wp2_with fail
          go_roundw
          case rel => exact ⟨c + 1, I + 1, I + 1, by go_num, by go_num, by omega, hnx, R9, B9⟩
          case measure => simp [intOf] <;> omega
        · have e1 : ((I : Int) == (nT : Int)) = false := by simp; omega
          have e1' : (I == nT) = false := by simp; omega
          have e1'' : ¬ I = nT := by omega
          have hget : ∀ h : I < (str T).size, (str T)[I] = 32 := fun h => by
            have h3 := h32
            rw [List.getD_eq_getElem?_getD, List.getElem?_eq_getElem (show I < T.length by rw [enT.out]; exact hlt)] at h3
            exact h3
          have e3 : (I : Int) < (nT : Int) := by omega
          have HA : Hid (SR (wr.alloc (.cells #[.string (str a)] 9)) g u4 (ws.take c)) := Lib.hid (hS.out.only (alloc_only wr _) (fun _ _ e => e))
          have HC : Hid ((wr.alloc (.cells #[.string (str a)] 9)).cell? ⟨wr.heap.size, 0, none⟩ = some (.string (str a))) := Lib.hid (by rw [Lib.cell_of_heap (heap_alloc_new wr _)]; rfl)
          have bz : g ≤ (wr.alloc (.cells #[.string (str a)] 9)).heap.size := by have := hW.out.size; have := hgw; simp; omega
          replace bz := Lib.hid bz
          go_wp2_with (at_builtin; refine wpList_onto_t (by rfl) (.tmp 31) (.tmp 36) 49 (by rfl) g i0 Tryd.underlying49 hi0 hz0 hz1 hz2 _ _ (by rfl) HA.out ⟨wr.heap.size, 0, none⟩ 1 a (by rfl) HC.out (by rw [List.length_take]; omega) bz.out ?_)
          intro v9 w9 r9 g9
          have B9 := Lib.hid ((hW.out.alloc hW.out.size _).grown g9 (by have := hW.out.size; simp; omega) (fun q hq => by have := (HA.out.blk hq).1; have := eg.out; omega))
          have R9 : Hid (SR w9 g v9 (ws.take (c + 1))) := Lib.hid (by rw [htk.out]; exact r9)
          clear r9 g9 HA HC bz
          go_wp2_with fail
          go_roundw
          case rel => exact ⟨c + 1, I + 1, I + 1, by go_num, by go_num, by omega, hnx, R9, B9⟩
          case measure => simp [intOf] <;> omega
    · have hc8 : c = 8 ∧ I = nT + 1 := by
        rcases hD.out.ways with h | h
        · have h1 := h.2.2.1; have h2 := h.2.2.2; have := enT.out; omega
        · have := h.2; have := h.1; have := enT.out; have := hwl.out; omega
      obtain ⟨rfl, rfl⟩ := hc8
      have d1 : decide (((nT + 1 : Nat) : Int) ≤ (nT : Int)) = false := decide_eq_false (by omega)
      have d1' : decide ((nT : Int) + 1 ≤ (nT : Int)) = false := decide_eq_false (by omega)
      rw [List.take_of_length_le (by rw [hwl.out]; exact Nat.le_refl _)] at hS
      obtain ⟨gw, cw, rfl, hw1, hw2, hw3⟩ := hS.out.slice (by rw [hwl.out]; omega)
      rw [hwl.out] at hw1 hw3 ⊢
      replace hw3 := Lib.hid hw3
      have BW := Lib.hid (below_up B1.out hW.out)
      have CW := Lib.hid ((hW.out.block rb (Array.getElem?_eq_some_iff.1 C1.out).1).trans C1.out)
      have x0 := hw3.out 0 (by omega)
      rw [hw0.out] at x0
      obtain ⟨j0, j1, j2, j3, j4, j5, j6, j7⟩ := rep_at CW.out
      clear hD hS hW B1 C1
      by_cases hk : k < 1
      · have e63 : wordL k = [63] := by unfold wordL; rw [if_neg (by omega), if_neg (by omega), if_neg (by omega), if_neg (by omega), if_neg (by omega)]
        rw [e63] at x0
        have hq : (str [63]).toList = [63] := str_tl _
        have dk1 : decide (k < 1) = true := decide_eq_true hk
        clear e63
        go_upto_region 10 with (fail)
        go_quiet (fail)
        clear hq
        have hnv := Lib.hid (show ∀ m, m < 7 → numQ (Q.mk k i n s p q l y) m = numQ (Q.mk k i n s p q l y) m from fun _ _ => rfl)
        clear x0
        have BQ : Hid (Below w.heap.size w (wr.drewN nq)) := Lib.hid (below_drewN BW.out nq)
        have CQ : Hid ((wr.drewN nq).heap[rb]? = some (.cells #[.int .i64 k, .int .i64 i, .int .i64 n, .int .i64 s, .int .i64 p, .int .i64 q, .int .i64 l, .int .i64 y] 25 (0, 0))) := Lib.hid CW.out
        have hw4 : Hid (∀ j, j < 8 → (wr.drewN nq).cell? ⟨gw, j, none⟩ = some (.string (str (ws.getD j [])))) := Lib.hid hw3.out
        obtain ⟨wQ, ewQ⟩ : ∃ W, wr.drewN nq = W := ⟨_, rfl⟩
        rw [ewQ] at BQ CQ hw4 ⊢
        clear ewQ BW CW hw3 j0 j1 j2 j3 j4 j5 j6 j7 hnv
        obtain ⟨j0, j1, j2, j3, j4, j5, j6, j7⟩ := rep_at CQ.out
        go_wp2_with fail
        obtain ⟨w3, ew3⟩ : ∃ W, wQ.alloc (.cells #[.int .i64 i, .int .i64 n, .int .i64 s, .int .i64 p, .int .i64 q, .int .i64 l, .int .i64 y] 2) = W := ⟨_, rfl⟩
        obtain ⟨nb, enb⟩ : ∃ nb, wQ.heap.size = nb := ⟨_, rfl⟩
        have N3 : Hid (w3.heap[nb]? = some (.cells #[.int .i64 i, .int .i64 n, .int .i64 s, .int .i64 p, .int .i64 q, .int .i64 l, .int .i64 y] 2 (0, 0))) := Lib.hid (by rw [← ew3, ← enb]; exact heap_alloc_new wQ _)
        have B3 : Hid (Below w.heap.size w w3) := Lib.hid (by rw [← ew3]; exact BQ.out.alloc BQ.out.size _)
        have hw5 : Hid (∀ j, j < 8 → w3.cell? ⟨gw, j, none⟩ = some (.string (str (ws.getD j [])))) := Lib.hid (fun j hj => by
          have al : Below wQ.heap.size wQ w3 := by rw [← ew3]; exact (Below.refl _ wQ).alloc (Nat.le_refl _) _
          exact (al.cell (p := ⟨gw, j, none⟩) (World.block_lt_of_cell? wQ _ (hw4.out j hj))).trans (hw4.out j hj))
        rw [ew3, enb]
        clear ew3 enb BQ CQ hw4 j0 j1 j2 j3 j4 j5 j6 j7
        go_loop [8] (fun iv => ∃ m : Nat, iv = .int .i64 m ∧ m ≤ 7) (fun iv => (7 - intOf iv).toNat)
        case atStart => exact ⟨0, rfl, by omega⟩
        case round =>
          obtain ⟨m, rfl, hm⟩ := hrel
          by_cases hm7 : m < 7
          · have f1 : decide ((m : Int) < 7) = true := decide_eq_true (by omega)
            have f2 : (m : Int) + 1 < 8 := by omega
            have f3 : (0 : Int) ≤ (m : Int) + 1 := by omega
            have f4 : (m : Int) < 7 := by omega
            have hcw := hw5.out (m + 1) (by omega)
            rw [hnum.out m hm7] at hcw
            have hcn := num_cell (k := k) N3.out hm7
            have hb := numQ_ok hO.out m
            obtain ⟨num, enum⟩ : ∃ z, numQ (Q.mk k i n s p q l y) m = z := ⟨_, rfl⟩
            rw [enum] at hcw hcn hb
            obtain ⟨h1, h2, h3, h4, h5⟩ := itoa_word hb
            obtain ⟨a, ea⟩ : ∃ a, Lib.itoa num = a := ⟨_, rfl⟩
            rw [ea] at hcw h1 h2 h3 h4 h5
            have hple := fun j => pval_le a j
            rw [h5] at hple
            have hpn := fun j (hj : j < a.length) => pval_next hj
            have hp0 := pval_zero a
            obtain ⟨la, ela⟩ : ∃ la, a.length = la := ⟨_, rfl⟩
            have hza : (str a).size = la := by rw [str_size, ela]
            rw [ela] at h2 h3 h5 hpn
            have hla0 : 0 < la := by rw [← ela]; exact List.length_pos_iff.2 h1
            have hU : num.natAbs ≤ 9223372036854775808 := by obtain ⟨b1, b2⟩ := hb; omega
            have hget : ∀ j, j < la → ∀ h : j < (str a).size, (str a)[j] = a.getD j 0 := fun j hj h => by
              rw [List.getD_eq_getElem?_getD, List.getElem?_eq_getElem (by omega)]
              rfl
            replace h3 := Lib.hid h3
            replace h5 := Lib.hid h5
            replace hple := Lib.hid hple
            replace hpn := Lib.hid hpn
            replace hget := Lib.hid hget
            replace ela := Lib.hid ela
            clear enum ea h1
            replace hp0 := Lib.hid hp0
            go_wp2_with fail
            go_loop [10, 11] (fun nv kv => ∃ j q : Nat, nv = .int .u64 q ∧ kv = .int .i64 j ∧ j ≤ la ∧ Hid (q = pval a j)) (fun _ kv => (la - intOf kv).toNat)
            case atStart => exact ⟨0, 0, rfl, rfl, by omega, Lib.hid hp0.out.symm⟩
            case round =>
              obtain ⟨j, q, rfl, rfl, hj, hq⟩ := hrel
              by_cases hjl : j < la
              · have g1 : decide ((j : Int) < (la : Int)) = true := decide_eq_true (by omega)
                have g2 : (j : Int) < (la : Int) := by omega
                have hg := hget.out j hjl
                obtain ⟨u1, u2⟩ := h3.out j hjl
                have hnx := hpn.out j hjl
                have hqn := hple.out (j + 1)
                obtain ⟨x, ex⟩ : ∃ x, a.getD j 0 = x := ⟨_, rfl⟩
                rw [ex] at hg u1 u2 hnx
                clear ex
                by_cases hx : x = 45
                · have hj0 := u1 hx
                  subst hj0
                  subst hx
                  rw [if_pos rfl] at hnx
                  replace hnx := Lib.hid hnx
                  have hg45 : ∀ h : 0 < (str a).size, (str a)[0] = 45 := hg
                  clear hg u1 u2 hqn
                  go_wp2_with fail
                  go_round
                  case rel => exact ⟨0 + 1, q, rfl, by go_num, by omega, Lib.hid (by rw [hnx.out]; exact hq.out)⟩
                  case measure => simp [intOf] <;> omega
                · obtain ⟨y1, y2⟩ := u2 hx
                  rw [if_neg hx] at hnx
                  rw [hnx, ← hq.out] at hqn
                  have hq2 : pval a (j + 1) = 10 * q + (x.toNat - 48) := by rw [hnx, ← hq.out]
                  replace hq2 := Lib.hid hq2
                  obtain ⟨xn, exn⟩ : ∃ xn, x.toNat = xn := ⟨_, rfl⟩
                  have hxb : xn ≠ 45 := fun e => hx (by apply UInt8.toNat_inj.1; rw [exn, e]; rfl)
                  rw [exn] at y1 y2 hqn hq2
                  have k1 : decide ((xn : Int) < 48) = false := decide_eq_false (by omega)
                  have k2 : decide ((57 : Int) < (xn : Int)) = false := decide_eq_false (by omega)
                  have k1' : ¬ xn < 48 := by omega
                  have k2' : ¬ 57 < xn := by omega
                  have k3 : decide ((20 : Int) < (la : Int)) = false := decide_eq_false (by omega)
                  have k3' : ¬ 20 < la := by omega
                  have k4 : ((xn : Int) == 45) = false := by simp; omega
                  have k4' : (xn == 45) = false := by simpa using hxb
                  have w1 : IntKind.u64.wrap (10 * (q : Int)) = ((10 * q : Nat) : Int) := by rw [IntKind.wrap_u64]; omega
                  have w2 : IntKind.u8.wrap ((xn : Int) - 48) = ((xn - 48 : Nat) : Int) := by rw [IntKind.wrap_u8]; omega
                  have w3' : IntKind.u64.wrap (((10 * q : Nat) : Int) + ((xn - 48 : Nat) : Int)) = ((10 * q + (xn - 48) : Nat) : Int) := by rw [IntKind.wrap_u64]; omega
                  clear hnx u1 u2 hx
                  by_cases hj0 : j = 0
                  · subst hj0
                    go_wp2_with fail
                    go_round
                    case rel => exact ⟨0 + 1, 10 * q + (xn - 48), by first | rfl | go_num, by go_num, by omega, Lib.hid hq2.out.symm⟩
                    case measure => simp [intOf] <;> omega
                  · have hj1 : ((j : Int) == 0) = false := by simp; omega
                    have hj2 : (j == 0) = false := by simpa using hj0
                    go_wp2_with fail
                    go_round
                    case rel => exact ⟨j + 1, 10 * q + (xn - 48), by first | rfl | go_num, by go_num, by omega, Lib.hid hq2.out.symm⟩
                    case measure => simp [intOf] <;> omega
              · obtain rfl : j = la := by omega
                have g1 : decide ((j : Int) < (j : Int)) = false := by simp
                have hqv : q = num.natAbs := by rw [hq.out, h5.out]
                have g3 : decide ((0 : Int) < (j : Int)) = true := decide_eq_true (by omega)
                have hg := hget.out 0 (by omega)
                replace h4 := Lib.hid h4
                by_cases hn : num < 0
                · obtain ⟨U, rfl⟩ : ∃ U : Nat, num = -(U : Int) := ⟨num.natAbs, by omega⟩
                  have hqU : q = U := by omega
                  subst hqU
                  have h45 : a.getD 0 0 = 45 := h4.out.2 hn
                  rw [h45] at hg
                  have n1 : decide (-(q : Int) < 0) = true := decide_eq_true hn
                  clear hq hqv h45
                  go_wp2_with fail
                  refine ⟨⟨trivial, ?_⟩, ?_⟩
                  · (repeat apply Exists.intro)
                    refine ⟨?rel, rfl⟩
                    case rel => exact ⟨m + 1, by go_num, by omega⟩
                  · simp [intOf] <;> omega
                · obtain ⟨U, rfl⟩ : ∃ U : Nat, num = (U : Int) := ⟨num.toNat, by omega⟩
                  have hqU : q = U := by omega
                  subst hqU
                  have h45 : a.getD 0 0 ≠ 45 := fun e => hn (h4.out.1 e)
                  obtain ⟨x, ex⟩ : ∃ x, a.getD 0 0 = x := ⟨_, rfl⟩
                  rw [ex] at hg h45
                  have hxb : x.toNat ≠ 45 := fun e => h45 (by apply UInt8.toNat_inj.1; rw [e]; rfl)
                  have k4 : ((x.toNat : Int) == 45) = false := by simp; omega
                  have k4' : (x.toNat == 45) = false := by simpa using hxb
                  have n1 : decide ((q : Int) < 0) = false := decide_eq_false hn
                  clear hq hqv h45 ex
                  go_wp2_with fail
                  refine ⟨⟨trivial, ?_⟩, ?_⟩
                  · (repeat apply Exists.intro)
                    refine ⟨?rel, rfl⟩
                    case rel => exact ⟨m + 1, by go_num, by omega⟩
                  · simp [intOf] <;> omega
          · obtain rfl : m = 7 := by omega
            have hTz := Lib.hid (hT.out.below B3.out)
            go_wp2_with fail
            refine (Known_any _ hTz).mono ?_
            rintro e w13 ⟨rfl, b13⟩
            have B13 := Lib.hid (below_up B3.out b13)
            go_wp2_with fail
            go_ret
            exact ⟨rfl, B13.out⟩
      · have hq : ((str (wordL k)).toList == [63]) = decide (5 < k) := by
          rw [str_tl]
          by_cases h5 : 5 < k
          · rw [decide_eq_true h5, show wordL k = [63] by unfold wordL; rw [if_neg (by omega), if_neg (by omega), if_neg (by omega), if_neg (by omega), if_neg (by omega)]]
            rfl
          · have : k = 1 ∨ k = 2 ∨ k = 3 ∨ k = 4 ∨ k = 5 := by omega
            rcases this with rfl | rfl | rfl | rfl | rfl <;> rfl
        obtain ⟨W0, eW0⟩ : ∃ W, wordL k = W := ⟨_, rfl⟩
        rw [eW0] at x0 hq
        obtain ⟨z, ez⟩ : ∃ z, decide (5 < k) = z := ⟨_, rfl⟩
        rw [ez] at hq
        have dk1 : decide (k < 1) = false := decide_eq_false hk
        clear eW0
        go_upto_region 10 with (fail)
        go_quiet (fail)
        clear hq ez
        have hnv := Lib.hid (show ∀ m, m < 7 → numQ (Q.mk k i n s p q l y) m = numQ (Q.mk k i n s p q l y) m from fun _ _ => rfl)
        clear x0
        have BQ : Hid (Below w.heap.size w (wr.drewN nq)) := Lib.hid (below_drewN BW.out nq)
        have CQ : Hid ((wr.drewN nq).heap[rb]? = some (.cells #[.int .i64 k, .int .i64 i, .int .i64 n, .int .i64 s, .int .i64 p, .int .i64 q, .int .i64 l, .int .i64 y] 25 (0, 0))) := Lib.hid CW.out
        have hw4 : Hid (∀ j, j < 8 → (wr.drewN nq).cell? ⟨gw, j, none⟩ = some (.string (str (ws.getD j [])))) := Lib.hid hw3.out
        obtain ⟨wQ, ewQ⟩ : ∃ W, wr.drewN nq = W := ⟨_, rfl⟩
        rw [ewQ] at BQ CQ hw4 ⊢
        clear ewQ BW CW hw3 j0 j1 j2 j3 j4 j5 j6 j7 hnv
        obtain ⟨j0, j1, j2, j3, j4, j5, j6, j7⟩ := rep_at CQ.out
        go_wp2_with fail
        obtain ⟨w3, ew3⟩ : ∃ W, wQ.alloc (.cells #[.int .i64 i, .int .i64 n, .int .i64 s, .int .i64 p, .int .i64 q, .int .i64 l, .int .i64 y] 2) = W := ⟨_, rfl⟩
        obtain ⟨nb, enb⟩ : ∃ nb, wQ.heap.size = nb := ⟨_, rfl⟩
        have N3 : Hid (w3.heap[nb]? = some (.cells #[.int .i64 i, .int .i64 n, .int .i64 s, .int .i64 p, .int .i64 q, .int .i64 l, .int .i64 y] 2 (0, 0))) := Lib.hid (by rw [← ew3, ← enb]; exact heap_alloc_new wQ _)
        have B3 : Hid (Below w.heap.size w w3) := Lib.hid (by rw [← ew3]; exact BQ.out.alloc BQ.out.size _)
        have hw5 : Hid (∀ j, j < 8 → w3.cell? ⟨gw, j, none⟩ = some (.string (str (ws.getD j [])))) := Lib.hid (fun j hj => by
          have al : Below wQ.heap.size wQ w3 := by rw [← ew3]; exact (Below.refl _ wQ).alloc (Nat.le_refl _) _
          exact (al.cell (p := ⟨gw, j, none⟩) (World.block_lt_of_cell? wQ _ (hw4.out j hj))).trans (hw4.out j hj))
        rw [ew3, enb]
        clear ew3 enb BQ CQ hw4 j0 j1 j2 j3 j4 j5 j6 j7
        go_loop [8] (fun iv => ∃ m : Nat, iv = .int .i64 m ∧ m ≤ 7) (fun iv => (7 - intOf iv).toNat)
        case atStart => exact ⟨0, rfl, by omega⟩
        case round =>
          obtain ⟨m, rfl, hm⟩ := hrel
          by_cases hm7 : m < 7
          · have f1 : decide ((m : Int) < 7) = true := decide_eq_true (by omega)
            have f2 : (m : Int) + 1 < 8 := by omega
            have f3 : (0 : Int) ≤ (m : Int) + 1 := by omega
            have f4 : (m : Int) < 7 := by omega
            have hcw := hw5.out (m + 1) (by omega)
            rw [hnum.out m hm7] at hcw
            have hcn := num_cell (k := k) N3.out hm7
            have hb := numQ_ok hO.out m
            obtain ⟨num, enum⟩ : ∃ z, numQ (Q.mk k i n s p q l y) m = z := ⟨_, rfl⟩
            rw [enum] at hcw hcn hb
            obtain ⟨h1, h2, h3, h4, h5⟩ := itoa_word hb
            obtain ⟨a, ea⟩ : ∃ a, Lib.itoa num = a := ⟨_, rfl⟩
            rw [ea] at hcw h1 h2 h3 h4 h5
            have hple := fun j => pval_le a j
            rw [h5] at hple
            have hpn := fun j (hj : j < a.length) => pval_next hj
            have hp0 := pval_zero a
            obtain ⟨la, ela⟩ : ∃ la, a.length = la := ⟨_, rfl⟩
            have hza : (str a).size = la := by rw [str_size, ela]
            rw [ela] at h2 h3 h5 hpn
            have hla0 : 0 < la := by rw [← ela]; exact List.length_pos_iff.2 h1
            have hU : num.natAbs ≤ 9223372036854775808 := by obtain ⟨b1, b2⟩ := hb; omega
            have hget : ∀ j, j < la → ∀ h : j < (str a).size, (str a)[j] = a.getD j 0 := fun j hj h => by
              rw [List.getD_eq_getElem?_getD, List.getElem?_eq_getElem (by omega)]
              rfl
            replace h3 := Lib.hid h3
            replace h5 := Lib.hid h5
            replace hple := Lib.hid hple
            replace hpn := Lib.hid hpn
            replace hget := Lib.hid hget
            replace ela := Lib.hid ela
            clear enum ea h1
            replace hp0 := Lib.hid hp0
            go_wp2_with fail
            go_loop [10, 11] (fun nv kv => ∃ j q : Nat, nv = .int .u64 q ∧ kv = .int .i64 j ∧ j ≤ la ∧ Hid (q = pval a j)) (fun _ kv => (la - intOf kv).toNat)
            case atStart => exact ⟨0, 0, rfl, rfl, by omega, Lib.hid hp0.out.symm⟩
            case round =>
              obtain ⟨j, q, rfl, rfl, hj, hq⟩ := hrel
              by_cases hjl : j < la
              · have g1 : decide ((j : Int) < (la : Int)) = true := decide_eq_true (by omega)
                have g2 : (j : Int) < (la : Int) := by omega
                have hg := hget.out j hjl
                obtain ⟨u1, u2⟩ := h3.out j hjl
                have hnx := hpn.out j hjl
                have hqn := hple.out (j + 1)
                obtain ⟨x, ex⟩ : ∃ x, a.getD j 0 = x := ⟨_, rfl⟩
                rw [ex] at hg u1 u2 hnx
                clear ex
                by_cases hx : x = 45
                · have hj0 := u1 hx
                  subst hj0
                  subst hx
                  rw [if_pos rfl] at hnx
                  replace hnx := Lib.hid hnx
                  have hg45 : ∀ h : 0 < (str a).size, (str a)[0] = 45 := hg
                  clear hg u1 u2 hqn
                  go_wp2_with fail
                  go_round
                  case rel => exact ⟨0 + 1, q, rfl, by go_num, by omega, Lib.hid (by rw [hnx.out]; exact hq.out)⟩
                  case measure => simp [intOf] <;> omega
                · obtain ⟨y1, y2⟩ := u2 hx
                  rw [if_neg hx] at hnx
                  rw [hnx, ← hq.out] at hqn
                  have hq2 : pval a (j + 1) = 10 * q + (x.toNat - 48) := by rw [hnx, ← hq.out]
                  replace hq2 := Lib.hid hq2
                  obtain ⟨xn, exn⟩ : ∃ xn, x.toNat = xn := ⟨_, rfl⟩
                  have hxb : xn ≠ 45 := fun e => hx (by apply UInt8.toNat_inj.1; rw [exn, e]; rfl)
                  rw [exn] at y1 y2 hqn hq2
                  have k1 : decide ((xn : Int) < 48) = false := decide_eq_false (by omega)
                  have k2 : decide ((57 : Int) < (xn : Int)) = false := decide_eq_false (by omega)
                  have k1' : ¬ xn < 48 := by omega
                  have k2' : ¬ 57 < xn := by omega
                  have k3 : decide ((20 : Int) < (la : Int)) = false := decide_eq_false (by omega)
                  have k3' : ¬ 20 < la := by omega
                  have k4 : ((xn : Int) == 45) = false := by simp; omega
                  have k4' : (xn == 45) = false := by simpa using hxb
                  have w1 : IntKind.u64.wrap (10 * (q : Int)) = ((10 * q : Nat) : Int) := by rw [IntKind.wrap_u64]; omega
                  have w2 : IntKind.u8.wrap ((xn : Int) - 48) = ((xn - 48 : Nat) : Int) := by rw [IntKind.wrap_u8]; omega
                  have w3' : IntKind.u64.wrap (((10 * q : Nat) : Int) + ((xn - 48 : Nat) : Int)) = ((10 * q + (xn - 48) : Nat) : Int) := by rw [IntKind.wrap_u64]; omega
                  clear hnx u1 u2 hx
                  by_cases hj0 : j = 0
                  · subst hj0
                    go_wp2_with fail
                    go_round
                    case rel => exact ⟨0 + 1, 10 * q + (xn - 48), by first | rfl | go_num, by go_num, by omega, Lib.hid hq2.out.symm⟩
                    case measure => simp [intOf] <;> omega
                  · have hj1 : ((j : Int) == 0) = false := by simp; omega
                    have hj2 : (j == 0) = false := by simpa using hj0
                    go_wp2_with fail
                    go_round
                    case rel => exact ⟨j + 1, 10 * q + (xn - 48), by first | rfl | go_num, by go_num, by omega, Lib.hid hq2.out.symm⟩
                    case measure => simp [intOf] <;> omega
              · obtain rfl : j = la := by omega
                have g1 : decide ((j : Int) < (j : Int)) = false := by simp
                have hqv : q = num.natAbs := by rw [hq.out, h5.out]
                have g3 : decide ((0 : Int) < (j : Int)) = true := decide_eq_true (by omega)
                have hg := hget.out 0 (by omega)
                replace h4 := Lib.hid h4
                by_cases hn : num < 0
                · obtain ⟨U, rfl⟩ : ∃ U : Nat, num = -(U : Int) := ⟨num.natAbs, by omega⟩
                  have hqU : q = U := by omega
                  subst hqU
                  have h45 : a.getD 0 0 = 45 := h4.out.2 hn
                  rw [h45] at hg
                  have n1 : decide (-(q : Int) < 0) = true := decide_eq_true hn
                  clear hq hqv h45
                  go_wp2_with fail
                  refine ⟨⟨m + 1, by go_num, by omega⟩, ?_⟩
                  simp [intOf] <;> omega
                · obtain ⟨U, rfl⟩ : ∃ U : Nat, num = (U : Int) := ⟨num.toNat, by omega⟩
                  have hqU : q = U := by omega
                  subst hqU
                  have h45 : a.getD 0 0 ≠ 45 := fun e => hn (h4.out.1 e)
                  obtain ⟨x, ex⟩ : ∃ x, a.getD 0 0 = x := ⟨_, rfl⟩
                  rw [ex] at hg h45
                  have hxb : x.toNat ≠ 45 := fun e => h45 (by apply UInt8.toNat_inj.1; rw [e]; rfl)
                  have k4 : ((x.toNat : Int) == 45) = false := by simp; omega
                  have k4' : (x.toNat == 45) = false := by simpa using hxb
                  have n1 : decide ((q : Int) < 0) = false := decide_eq_false hn
                  clear hq hqv h45 ex
                  go_wp2_with fail
                  refine ⟨⟨m + 1, by go_num, by omega⟩, ?_⟩
                  simp [intOf] <;> omega
          · obtain rfl : m = 7 := by omega
            have hTz := Lib.hid (hT.out.below B3.out)
            go_wp2_with fail
            refine (Known_any _ hTz).mono ?_
            rintro e w13 ⟨rfl, b13⟩
            have B13 := Lib.hid (below_up B3.out b13)
            go_wp2_with fail
            go_ret
            exact ⟨rfl, B13.out⟩
end Go.Proofs.YtjhfgajhmenboaaDoor
