/-
  The law ReportBack: a list that is not cut.
-/
import Derived.Test.YtjhfgajhmenboaaDoorRepBack0
import Derived.Test.YtjhfgajhmenboaaDoorKeepBytes
import Derived.Laws.BitsAllLaws
import Derived.Deep.RegionHeld3
namespace Go.Proofs.YtjhfgajhmenboaaDoor
open Go.RowKit
set_option linter.unusedVariables false
set_option linter.unusedSimpArgs false

set_option maxRecDepth 100000 in
set_option maxHeartbeats 12800000 in
theorem Back_way1 (A0 : Option Addr) (n0 cap0 : Nat) (L0 : List Q) (cut : Int) (w : World) (hH0 : Hid (HR w A0 n0 L0)) (hO0 : OkL L0) (p1 : n0 ≤ cap0) (p2 : cap0 ≤ 9223372036854775807) (t1 : -9223372036854775808 ≤ cut) (t2 : cut ≤ 9223372036854775807) (h0 : n0 ≤ 15) (hT : Hid (Tab w)) :
    Calls Tryd.prog 5 #[.slice A0 n0 cap0, .int .i64 cut] w fun e w' => e = .returned (.bool true) ∧ Below w.heap.size w w' := by
  obtain ⟨i0, hi0, hz0, hz1, hz2⟩ := info_parts info_rep
  have dcut : decide ((15 : Int) < (n0 : Int)) = false := decide_eq_false (by omega)
  have dcut' : ¬ (15 : Int) < (n0 : Int) := by omega
  have hH : Hid (HR w A0 n0 L0) := hH0
  have hO : Hid (OkL L0) := Lib.hid hO0
  clear hO0 hH0
  have hLl := Lib.hid hH.out.1
  have b1 : Hid (Below w.heap.size w w) := Lib.hid (Below.refl _ _)
  obtain ⟨g, eg⟩ : ∃ g, w.heap.size = g := ⟨_, rfl⟩
  have R1 : Hid (RR w g (.slice none 0 0) (goodL (L0.take 0))) := Lib.hid (by rw [List.take_zero]; exact rr_nil _ _)
  replace eg := Lib.hid eg
  go_enter Tryd.func5, Tryd.ntmps5
  go_wp2_with fail
  go_loopw [5, 6] (fun v i wr => ∃ k : Nat, i = .int .i64 k ∧ k ≤ n0 ∧ Hid (RR wr g v (goodL (L0.take k))) ∧ Hid (Below w.heap.size w wr)) (fun _ i _ => (n0 - intOf i).toNat)
  case atStart => exact ⟨0, rfl, by omega, R1, b1⟩
  case round =>
    clear b1 R1
    obtain ⟨k, rfl, hk, hR, hW⟩ := hrel
    by_cases hlt : k < n0
    · have d1 : decide ((k : Int) < (n0 : Int)) = true := decide_eq_true (by omega)
      have d3 : (k : Int) < (n0 : Int) := by omega
      obtain ⟨ba, oa, rfl, -⟩ := hH.out.2 k hlt
      have hok := hO.out.get k
      have hcell : Hid (∀ W : World, Below w.heap.size w W → W.cell? ⟨ba, oa + k * 8, none⟩ = some (.int .i64 (L0.getD k zeroQ).k) ∧ W.cell? ⟨ba, oa + k * 8 + 1, none⟩ = some (.int .i64 (L0.getD k zeroQ).i) ∧ W.cell? ⟨ba, oa + k * 8 + 2, none⟩ = some (.int .i64 (L0.getD k zeroQ).n) ∧ W.cell? ⟨ba, oa + k * 8 + 3, none⟩ = some (.int .i64 (L0.getD k zeroQ).s) ∧ W.cell? ⟨ba, oa + k * 8 + 4, none⟩ = some (.int .i64 (L0.getD k zeroQ).p) ∧ W.cell? ⟨ba, oa + k * 8 + 5, none⟩ = some (.int .i64 (L0.getD k zeroQ).q) ∧ W.cell? ⟨ba, oa + k * 8 + 6, none⟩ = some (.int .i64 (L0.getD k zeroQ).l) ∧ W.cell? ⟨ba, oa + k * 8 + 7, none⟩ = some (.int .i64 (L0.getD k zeroQ).y)) := Lib.hid (fun W b => by
        obtain ⟨b2, o2, e, c⟩ := (hH.out.below b).2 k hlt
        injection e with e
        injection e with e1 e2
        subst e1
        subst e2
        exact c)
      have htk := take_snoc (L := L0) (k := k) (by rw [hLl.out]; exact hlt)
      have hGl := goodL_len (L0.take k)
      have htl := take_len_le L0 k
      have hGO := goodL_ok (hO.out.take k)
      have hGR := goodL_right (L := L0.take k)
      obtain ⟨r, er⟩ : ∃ r, L0.getD k zeroQ = r := ⟨_, rfl⟩
      rw [er] at hok hcell htk
      clear er
      have hyes := fun h => goodL_snoc_yes (L := L0.take k) (r := r) h
      have hno := fun h => goodL_snoc_no (L := L0.take k) (r := r) h
      rw [← htk] at hyes hno
      obtain ⟨G, eG⟩ : ∃ G, goodL (L0.take k) = G := ⟨_, rfl⟩
      rw [eG] at hR hGl hGO hGR hyes hno
      have hGn : G.length ≤ 15 := by omega
      replace hGO := Lib.hid hGO
      replace hGR := Lib.hid hGR
      replace hyes := Lib.hid hyes
      replace hno := Lib.hid hno
      clear eG htk hGl htl
      have hp := fun W => PEncode_any r W hok
      have hHTr := fun W (t : Tab W) => PText_any r W hok (Lib.hid t)
      replace hok := Lib.hid hok
      by_cases hr : r.Right
      case neg =>
        simp only [encE_no hr, encR_no hr] at hp
        have hnx := Lib.hid (hno.out hr)
        obtain ⟨k', i', n', s', p', q', l', y'⟩ := r
        simp only at hcell
        rw [show (Q.mk k' i' n' s' p' q' l' y').val = .agg #[.int .i64 k', .int .i64 i', .int .i64 n', .int .i64 s', .int .i64 p', .int .i64 q', .int .i64 l', .int .i64 y'] from rfl] at hp
        replace hp := Lib.hid hp
        obtain ⟨j0, j1, j2, j3, j4, j5, j6, j7⟩ := hcell.out wr hW.out
        go_wp2_with fail
        refine (hp.out wr).mono ?_
        rintro e w3 ⟨r1, rfl, R1, b3⟩
        have B3 := Lib.hid (below_up hW.out b3)
        have R3 := Lib.hid (hR.out.keep b3)
        clear j0 j1 j2 j3 j4 j5 j6 j7 b3 hp R1
        go_wp2_with fail
        go_roundw
        case rel => exact ⟨k + 1, by go_num, by omega, Lib.hid (by rw [hnx.out]; exact R3.out), B3⟩
        case measure => simp [intOf]; omega
      obtain ⟨hdo, hdq⟩ := enc_read hok.out hr
      have hxl := encQ_len r
      simp only [encE_yes hr, encR_yes hr] at hp
      have hnx := Lib.hid (hyes.out hr)
      have hXd : Hid (∀ d : Q, d.Ok → d.Right → d ≠ r → encQ r ≠ encQ d) := Lib.hid (fun d h1 h2 hne e => hne (enc_inj h1 h2 hok.out hr e.symm))
      have hTd : Hid (∀ d : Q, d.Right → d ≠ r → textQ r ≠ textQ d) := Lib.hid (fun d h2 hne e => hne (text_inj h2 hr e.symm))
      have hdq : decQ (encQ r) = r := by rw [decQ_yes hdo, hdq]
      have hde := decE_yes hdo
      have hne : ∀ W, (binOp .neq 25 r.val r.val).run Tryd.prog W = .ok (.bool false) W := fun W => by rw [rep_neq, sameQ_self]; rfl
      obtain ⟨X, eX⟩ : ∃ X, encQ r = X := ⟨_, rfl⟩
      obtain ⟨TX, eT⟩ : ∃ X, textQ r = X := ⟨_, rfl⟩
      simp only [eX] at hp hXd hdq hde hxl
      simp only [eT] at hHTr hTd
      replace eX := Lib.hid eX
      replace eT := Lib.hid eT
      replace hr := Lib.hid hr
      clear hyes hno hdo
      obtain ⟨k', i', n', s', p', q', l', y'⟩ := r
      simp only at hcell
      have hv : (Q.mk k' i' n' s' p' q' l' y').val = .agg #[.int .i64 k', .int .i64 i', .int .i64 n', .int .i64 s', .int .i64 p', .int .i64 q', .int .i64 l', .int .i64 y'] := rfl
      rw [hv] at hp hHTr hne
      replace hp := Lib.hid hp
      replace hHTr := Lib.hid hHTr
      obtain ⟨j0, j1, j2, j3, j4, j5, j6, j7⟩ := hcell.out wr hW.out
      go_wp2_with fail
      refine (hp.out wr).mono ?_
      rintro e w3 ⟨r1, rfl, R1, b3⟩
      have B3 := Lib.hid (below_up hW.out b3)
      have R3 := Lib.hid (hR.out.keep b3)
      clear j0 j1 j2 j3 j4 j5 j6 j7 b3 hp hR hW
      obtain ⟨A1, n1, c1, rfl, en1, S1⟩ := R1.src (by omega)
      have hn1 : n1 ≤ 36 := by omega
      replace S1 := Lib.hid S1
      clear R1 en1 hxl
      go_wp2_with fail
      refine (PDecode_any A1 n1 c1 X w3 (by omega) (Lib.hid S1.out.hb)).mono ?_
      rintro e w4 ⟨rfl, b4⟩
      rw [hdq, hde, hv]
      have B4 := Lib.hid (below_up B3.out b4)
      have R4 := Lib.hid (R3.out.keep b4)
      have S4 := Lib.hid (S1.out.below b4)
      clear b4 B3 R3 S1 hdq hde hv
      go_upto_region 10 with (fail)
      obtain ⟨w5, ew5⟩ : ∃ W, w4.alloc (.cells #[.int .i64 k', .int .i64 i', .int .i64 n', .int .i64 s', .int .i64 p', .int .i64 q', .int .i64 l', .int .i64 y'] 25) = W := ⟨_, rfl⟩
      obtain ⟨rb, erb⟩ : ∃ rb, w4.heap.size = rb := ⟨_, rfl⟩
      have al : Below w4.heap.size w4 w5 := by rw [← ew5]; exact (Below.refl _ w4).alloc (Nat.le_refl _) _
      have C5 : Hid (w5.heap[rb]? = some (.cells #[.int .i64 k', .int .i64 i', .int .i64 n', .int .i64 s', .int .i64 p', .int .i64 q', .int .i64 l', .int .i64 y'] 25 (0, 0))) := Lib.hid (by rw [← ew5, ← erb]; exact heap_alloc_new w4 _)
      have B5 := Lib.hid (below_up B4.out al)
      have R5 := Lib.hid (R4.out.keep al)
      have S5 := Lib.hid (S4.out.below al)
      show Code.wp _ _ _ _ (w4.alloc (.cells #[.int .i64 k', .int .i64 i', .int .i64 n', .int .i64 s', .int .i64 p', .int .i64 q', .int .i64 l', .int .i64 y'] 25))
      rw [ew5, erb]
      clear ew5 erb al B4 R4 S4
      obtain ⟨j0, j1, j2, j3, j4, j5, j6, j7⟩ := hcell.out w5 B5.out
      obtain ⟨k0, k1, k2, k3, k4, k5, k6, k7⟩ := rep_at C5.out
      go_quiet (fail)
      clear j0 j1 j2 j3 j4 j5 j6 j7 k0 k1 k2 k3 k4 k5 k6 k7 hne
      have B6 : Hid (Below w.heap.size w (w5.drewN nq)) := Lib.hid (below_drewN B5.out nq)
      have C6 : Hid ((w5.drewN nq).heap[rb]? = some (.cells #[.int .i64 k', .int .i64 i', .int .i64 n', .int .i64 s', .int .i64 p', .int .i64 q', .int .i64 l', .int .i64 y'] 25 (0, 0))) := Lib.hid C5.out
      have R6 : Hid (RR (w5.drewN nq) g u5 G) := Lib.hid R5.out
      have S6 : Hid (Src (w5.drewN nq) A1 n1 c1 X) := Lib.hid (S5.out.below (below_drewN (Below.refl _ w5) nq))
      obtain ⟨wS, ewS⟩ : ∃ W, w5.drewN nq = W := ⟨_, rfl⟩
      rw [ewS] at B6 C6 R6 S6 ⊢
      clear ewS B5 C5 R5 S5
      obtain ⟨As, ns, cs, rfl, HS, hs1, hs2, hs3, hs4⟩ := R6.out.slice
      replace HS := Lib.hid HS
      have hsl := Lib.hid hs4
      have hns : ns ≤ 15 := by omega
      have bS := Lib.hid (Below.refl wS.heap.size wS)
      clear hs4
      go_wp2_with fail
      go_loopw [11] (fun mv wr => ∃ m : Nat, mv = .int .i64 m ∧ m ≤ ns ∧ Hid (Below wS.heap.size wS wr)) (fun mv _ => (ns - intOf mv).toNat)
      case atStart => exact ⟨0, rfl, by omega, bS⟩
      case round =>
        clear bS
        obtain ⟨m, rfl, hm, hV⟩ := hrel
        by_cases hmt : m < ns
        · have e1 : decide ((m : Int) < (ns : Int)) = true := decide_eq_true (by omega)
          have e3 : (m : Int) < (ns : Int) := by omega
          obtain ⟨bs, os, rfl, -⟩ := HS.out.2 m hmt
          have hsc : Hid (∀ W : World, Below wS.heap.size wS W → W.cell? ⟨bs, os + m * 8, none⟩ = some (.int .i64 (G.getD m zeroQ).k) ∧ W.cell? ⟨bs, os + m * 8 + 1, none⟩ = some (.int .i64 (G.getD m zeroQ).i) ∧ W.cell? ⟨bs, os + m * 8 + 2, none⟩ = some (.int .i64 (G.getD m zeroQ).n) ∧ W.cell? ⟨bs, os + m * 8 + 3, none⟩ = some (.int .i64 (G.getD m zeroQ).s) ∧ W.cell? ⟨bs, os + m * 8 + 4, none⟩ = some (.int .i64 (G.getD m zeroQ).p) ∧ W.cell? ⟨bs, os + m * 8 + 5, none⟩ = some (.int .i64 (G.getD m zeroQ).q) ∧ W.cell? ⟨bs, os + m * 8 + 6, none⟩ = some (.int .i64 (G.getD m zeroQ).l) ∧ W.cell? ⟨bs, os + m * 8 + 7, none⟩ = some (.int .i64 (G.getD m zeroQ).y)) := Lib.hid (fun W b => by
            obtain ⟨b2, o2, e, c⟩ := (HS.out.below b).2 m hmt
            injection e with e
            injection e with e1 e2
            subst e1
            subst e2
            exact c)
          have hmem : G.getD m zeroQ ∈ G := by
            have : m < G.length := by rw [hsl.out]; exact hmt
            rw [show G.getD m zeroQ = G[m] by simp [List.getD, List.getElem?_eq_getElem this]]
            exact List.getElem_mem this
          have hdO := hGO.out _ hmem
          have hdR := hGR.out _ hmem
          obtain ⟨d, ed⟩ : ∃ d, G.getD m zeroQ = d := ⟨_, rfl⟩
          rw [ed] at hsc hdO hdR
          clear ed hmem
          have hpd := fun W => PEncode_any d W hdO
          simp only [encE_yes hdR, encR_yes hdR] at hpd
          have hHTd := fun W (t : Tab W) => PText_any d W hdO (Lib.hid t)
          have hyl := encQ_len d
          have heq : ∀ W, (binOp .eql 25 d.val (Q.mk k' i' n' s' p' q' l' y').val).run Tryd.prog W = .ok (.bool (sameQ d (Q.mk k' i' n' s' p' q' l' y'))) W := fun W => rep_eql d (Q.mk k' i' n' s' p' q' l' y') W
          have hXd := hXd.out d hdO hdR
          have hTd := hTd.out d hdR
          have hcase : (d = (Q.mk k' i' n' s' p' q' l' y') ∧ encQ d = X ∧ textQ d = TX) ∨ (d ≠ (Q.mk k' i' n' s' p' q' l' y') ∧ ((str X).toList == (str (encQ d)).toList) = false ∧ ((str TX).toList == (str (textQ d)).toList) = false) := by
            by_cases h : d = (Q.mk k' i' n' s' p' q' l' y')
            · exact .inl ⟨h, by rw [h]; exact eX.out, by rw [h]; exact eT.out⟩
            · exact .inr ⟨h, strl_ne (hXd h), strl_ne (hTd h)⟩
          replace hcase := Lib.hid hcase
          obtain ⟨Y, eY⟩ : ∃ Y, encQ d = Y := ⟨_, rfl⟩
          obtain ⟨TY, eTY⟩ : ∃ Y, textQ d = Y := ⟨_, rfl⟩
          simp only [eY] at hpd hyl hcase
          simp only [eTY] at hHTd hcase
          clear eY eTY hXd hTd hdO hdR
          obtain ⟨k'', i'', n'', s'', p'', q'', l'', y''⟩ := d
          simp only at hsc
          rw [show (Q.mk k'' i'' n'' s'' p'' q'' l'' y'').val = .agg #[.int .i64 k'', .int .i64 i'', .int .i64 n'', .int .i64 s'', .int .i64 p'', .int .i64 q'', .int .i64 l'', .int .i64 y''] from rfl] at hpd hHTd heq
          rw [show (Q.mk k' i' n' s' p' q' l' y').val = .agg #[.int .i64 k', .int .i64 i', .int .i64 n', .int .i64 s', .int .i64 p', .int .i64 q', .int .i64 l', .int .i64 y'] from rfl] at heq
          replace hpd := Lib.hid hpd
          replace hHTd := Lib.hid hHTd
          replace heq := Lib.hid heq
          obtain ⟨j0, j1, j2, j3, j4, j5, j6, j7⟩ := hsc.out wr hV.out
          go_wp2_with fail
          refine (hpd.out wr).mono ?_
          rintro e w7 ⟨r2, rfl, R2, b7⟩
          have V7 := Lib.hid (below_up hV.out b7)
          clear j0 j1 j2 j3 j4 j5 j6 j7 b7 hpd hV
          obtain ⟨A2, n2, c2, rfl, en2, S2⟩ := R2.src (by omega)
          replace S2 := Lib.hid S2
          clear R2 en2 hyl
          have hof : Hid (∀ W : World, Below w7.heap.size w7 W → (fun W : World => W.cell? ⟨bs, os + m * 8, none⟩ = some (.int .i64 k'') ∧ W.cell? ⟨bs, os + m * 8 + 1, none⟩ = some (.int .i64 i'') ∧ W.cell? ⟨bs, os + m * 8 + 2, none⟩ = some (.int .i64 n'') ∧ W.cell? ⟨bs, os + m * 8 + 3, none⟩ = some (.int .i64 s'') ∧ W.cell? ⟨bs, os + m * 8 + 4, none⟩ = some (.int .i64 p'') ∧ W.cell? ⟨bs, os + m * 8 + 5, none⟩ = some (.int .i64 q'') ∧ W.cell? ⟨bs, os + m * 8 + 6, none⟩ = some (.int .i64 l'') ∧ W.cell? ⟨bs, os + m * 8 + 7, none⟩ = some (.int .i64 y'') ∧ W.cell? ⟨rb, 0, none⟩ = some (.int .i64 k') ∧ W.cell? ⟨rb, 1, none⟩ = some (.int .i64 i') ∧ W.cell? ⟨rb, 2, none⟩ = some (.int .i64 n') ∧ W.cell? ⟨rb, 3, none⟩ = some (.int .i64 s') ∧ W.cell? ⟨rb, 4, none⟩ = some (.int .i64 p') ∧ W.cell? ⟨rb, 5, none⟩ = some (.int .i64 q') ∧ W.cell? ⟨rb, 6, none⟩ = some (.int .i64 l') ∧ W.cell? ⟨rb, 7, none⟩ = some (.int .i64 y') ∧ (convert 26 9 (.slice A1 n1 c1)).run Tryd.prog W = .ok (.string (str X)) W ∧ (convert 26 9 (.slice A2 n2 c2)).run Tryd.prog W = .ok (.string (str Y)) W ∧ Below w7.heap.size w7 W) W) := Lib.hid (fun W b => by
            obtain ⟨j0, j1, j2, j3, j4, j5, j6, j7⟩ := hsc.out W (below_up V7.out b)
            obtain ⟨k0, k1, k2, k3, k4, k5, k6, k7⟩ := rep_at (((below_up V7.out b).block rb (Array.getElem?_eq_some_iff.1 C6.out).1).trans C6.out)
            exact ⟨j0, j1, j2, j3, j4, j5, j6, j7, k0, k1, k2, k3, k4, k5, k6, k7, (S6.out.below (below_up V7.out b)).str, (S2.out.below b).str, b⟩)
          have hz0 := hof.out _ ((Below.refl w7.heap.size w7).drew)
          have hTab7 : Hid (∀ W : World, Below w7.heap.size w7 W → Tab W) := Lib.hid (fun W b => hT.out.below (below_up B6.out (below_up V7.out b)))
          (try simp only at hz0)
          go_wp2_with fail
          rcases hcase.out with ⟨hdr, hXY, hTXY⟩ | ⟨hdr, hXY, hTXY⟩
          · clear hcase
            rw [hdr, sameQ_self] at heq
            injection hdr with g0 g1 g2 g3 g4 g5 g6 g7
            subst g0; subst g1; subst g2; subst g3; subst g4; subst g5; subst g6; subst g7
            subst hXY
            subst hTXY
            have heq2 := heq.out
            clear heq
            go_region_held3 (fun W : World => W.cell? ⟨bs, os + m * 8, none⟩ = some (.int .i64 k'') ∧ W.cell? ⟨bs, os + m * 8 + 1, none⟩ = some (.int .i64 i'') ∧ W.cell? ⟨bs, os + m * 8 + 2, none⟩ = some (.int .i64 n'') ∧ W.cell? ⟨bs, os + m * 8 + 3, none⟩ = some (.int .i64 s'') ∧ W.cell? ⟨bs, os + m * 8 + 4, none⟩ = some (.int .i64 p'') ∧ W.cell? ⟨bs, os + m * 8 + 5, none⟩ = some (.int .i64 q'') ∧ W.cell? ⟨bs, os + m * 8 + 6, none⟩ = some (.int .i64 l'') ∧ W.cell? ⟨bs, os + m * 8 + 7, none⟩ = some (.int .i64 y'') ∧ W.cell? ⟨rb, 0, none⟩ = some (.int .i64 k'') ∧ W.cell? ⟨rb, 1, none⟩ = some (.int .i64 i'') ∧ W.cell? ⟨rb, 2, none⟩ = some (.int .i64 n'') ∧ W.cell? ⟨rb, 3, none⟩ = some (.int .i64 s'') ∧ W.cell? ⟨rb, 4, none⟩ = some (.int .i64 p'') ∧ W.cell? ⟨rb, 5, none⟩ = some (.int .i64 q'') ∧ W.cell? ⟨rb, 6, none⟩ = some (.int .i64 l'') ∧ W.cell? ⟨rb, 7, none⟩ = some (.int .i64 y'') ∧ (convert 26 9 (.slice A1 n1 c1)).run Tryd.prog W = .ok (.string (str Y)) W ∧ (convert 26 9 (.slice A2 n2 c2)).run Tryd.prog W = .ok (.string (str Y)) W ∧ Below w7.heap.size w7 W) (first | with_reducible assumption | with_reducible exact hz0)
              (first
               | (go_at_call 10; (with_reducible refine (hHTr.out _ (hTab7.out _ ((Below.refl w7.heap.size w7).drew))).mono ?_); rintro e w8 ⟨rfl, b8⟩; have D8 := ((Below.refl w7.heap.size w7).drew).trans b8; have z8 := hof.out _ D8; replace D8 := Lib.hid D8)
               | (go_at_call 10; (with_reducible refine (hHTd.out _ (hTab7.out _ D8.out)).mono ?_); rintro e w9 ⟨rfl, b9⟩; have D9 := D8.out.trans (b9.mono D8.out.size); have z9 := hof.out _ D9; replace D9 := Lib.hid D9))
            have V9 := Lib.hid (below_up V7.out D9.out)
            clear D8 D9 z8 z9 hz0 hof hTab7 S2 V7
            go_wp2_with fail
            go_roundw
            case rel => exact ⟨m + 1, by go_num, by omega, V9⟩
            case measure => simp [intOf]; omega

          · have heq2 : ∀ W, (binOp .eql 25 (.agg #[.int .i64 k'', .int .i64 i'', .int .i64 n'', .int .i64 s'', .int .i64 p'', .int .i64 q'', .int .i64 l'', .int .i64 y'']) (.agg #[.int .i64 k', .int .i64 i', .int .i64 n', .int .i64 s', .int .i64 p', .int .i64 q', .int .i64 l', .int .i64 y'])).run Tryd.prog W = .ok (.bool false) W := fun W => by rw [heq.out W, sameQ_ne hdr]
            clear hcase hdr heq
            go_region_held3 (fun W : World => W.cell? ⟨bs, os + m * 8, none⟩ = some (.int .i64 k'') ∧ W.cell? ⟨bs, os + m * 8 + 1, none⟩ = some (.int .i64 i'') ∧ W.cell? ⟨bs, os + m * 8 + 2, none⟩ = some (.int .i64 n'') ∧ W.cell? ⟨bs, os + m * 8 + 3, none⟩ = some (.int .i64 s'') ∧ W.cell? ⟨bs, os + m * 8 + 4, none⟩ = some (.int .i64 p'') ∧ W.cell? ⟨bs, os + m * 8 + 5, none⟩ = some (.int .i64 q'') ∧ W.cell? ⟨bs, os + m * 8 + 6, none⟩ = some (.int .i64 l'') ∧ W.cell? ⟨bs, os + m * 8 + 7, none⟩ = some (.int .i64 y'') ∧ W.cell? ⟨rb, 0, none⟩ = some (.int .i64 k') ∧ W.cell? ⟨rb, 1, none⟩ = some (.int .i64 i') ∧ W.cell? ⟨rb, 2, none⟩ = some (.int .i64 n') ∧ W.cell? ⟨rb, 3, none⟩ = some (.int .i64 s') ∧ W.cell? ⟨rb, 4, none⟩ = some (.int .i64 p') ∧ W.cell? ⟨rb, 5, none⟩ = some (.int .i64 q') ∧ W.cell? ⟨rb, 6, none⟩ = some (.int .i64 l') ∧ W.cell? ⟨rb, 7, none⟩ = some (.int .i64 y') ∧ (convert 26 9 (.slice A1 n1 c1)).run Tryd.prog W = .ok (.string (str X)) W ∧ (convert 26 9 (.slice A2 n2 c2)).run Tryd.prog W = .ok (.string (str Y)) W ∧ Below w7.heap.size w7 W) (first | with_reducible assumption | with_reducible exact hz0)
              (first
               | (go_at_call 10; (with_reducible refine (hHTr.out _ (hTab7.out _ ((Below.refl w7.heap.size w7).drew))).mono ?_); rintro e w8 ⟨rfl, b8⟩; have D8 := ((Below.refl w7.heap.size w7).drew).trans b8; have z8 := hof.out _ D8; replace D8 := Lib.hid D8)
               | (go_at_call 10; (with_reducible refine (hHTd.out _ (hTab7.out _ D8.out)).mono ?_); rintro e w9 ⟨rfl, b9⟩; have D9 := D8.out.trans (b9.mono D8.out.size); have z9 := hof.out _ D9; replace D9 := Lib.hid D9))
            have V9 := Lib.hid (below_up V7.out D9.out)
            clear D8 D9 z8 z9 hz0 hof hTab7 S2 V7
            go_wp2_with fail
            go_roundw
            case rel => exact ⟨m + 1, by go_num, by omega, V9⟩
            case measure => simp [intOf]; omega

        · obtain rfl : m = ns := by omega
          have e1 : decide ((m : Int) < (m : Int)) = false := by simp
          have BV := Lib.hid (below_up B6.out hV.out)
          have RV := Lib.hid (R6.out.keep hV.out)
          have CV := Lib.hid ((hV.out.block rb (Array.getElem?_eq_some_iff.1 C6.out).1).trans C6.out)
          obtain ⟨k0, k1, k2, k3, k4, k5, k6, k7⟩ := rep_at CV.out
          have RVa : Hid (RR (wr.alloc (.cells #[.int .i64 k', .int .i64 i', .int .i64 n', .int .i64 s', .int .i64 p', .int .i64 q', .int .i64 l', .int .i64 y'] 25)) g (.slice As m cs) G) := Lib.hid (RV.out.only (alloc_only wr _) (fun _ _ e => e))
          have CVa : Hid ((wr.alloc (.cells #[.int .i64 k', .int .i64 i', .int .i64 n', .int .i64 s', .int .i64 p', .int .i64 q', .int .i64 l', .int .i64 y'] 25)).heap[wr.heap.size]? = some (.cells (Q.mk k' i' n' s' p' q' l' y').cells 25 (0, 0))) := Lib.hid (heap_alloc_new wr _)
          have bz : g ≤ (wr.alloc (.cells #[.int .i64 k', .int .i64 i', .int .i64 n', .int .i64 s', .int .i64 p', .int .i64 q', .int .i64 l', .int .i64 y'] 25)).heap.size := by have := BV.out.size; rw [eg.out] at this; simp; omega
          replace bz := Lib.hid bz
          go_wp2_with (at_builtin; refine wpList_onto_r (by rfl) (.tmp 99) (.tmp 101) 33 (by rfl) g i0 Tryd.underlying33 hi0 hz0 hz1 hz2 _ _ (by rfl) RVa.out wr.heap.size 1 (Q.mk k' i' n' s' p' q' l' y') 25 (by rfl) CVa.out (by omega) bz.out ?_)
          intro v9 w9 r9 g9 o9
          have B9 := Lib.hid ((BV.out.alloc BV.out.size _).grown g9 (by have := BV.out.size; simp; omega) (fun q hq => by rw [eg.out]; exact (RVa.out.blk hq).1))
          have R9 := Lib.hid r9
          clear r9 g9 o9 RVa CVa bz k0 k1 k2 k3 k4 k5 k6 k7
          go_wp2_with fail
          go_roundw
          case rel => exact ⟨k + 1, by go_num, by omega, Lib.hid (by rw [hnx.out]; exact R9.out), B9⟩
          case measure => simp [intOf]; omega
    · obtain rfl : k = n0 := by omega
      have d1 : decide (((k : Nat) : Int) < ((k : Nat) : Int)) = false := by simp
      (try simp only at d1)
      rw [List.take_of_length_le (by rw [hLl.out]; exact Nat.le_refl _)] at hR
      have hRP := fun W (b : Below w.heap.size w W) => PAll_any A0 k cap0 L0 W (by omega) (by omega) p2 (Lib.hid (hH.out.below b)) hO
      have hgl := goodL_len L0
      have hGO := goodL_ok hO.out
      have hGR := goodL_right (L := L0)
      simp only [allQ_good] at hRP
      obtain ⟨G, eG⟩ : ∃ G, goodL L0 = G := ⟨_, rfl⟩
      rw [eG] at hR hgl hGO hGR
      simp only [eG] at hRP
      have hGl : G.length ≤ 15 := by have := hLl.out; omega
      have hall := Lib.hid (read_frs hGO hGR)
      have hcut := Lib.hid (fun k (h : k ≤ (frsL G).length) => read_cut hGO hGR h)
      have hTl := frsL_len G
      obtain ⟨T, eT⟩ : ∃ T, frsL G = T := ⟨_, rfl⟩
      rw [eT] at hall hcut hTl
      simp only [eT] at hRP
      replace hRP := Lib.hid hRP
      have hGl' := Lib.hid hGl
      obtain ⟨As, ns, cs, rfl, HS, hs1, hs2, hs3, hs4⟩ := hR.out.slice
      have hns : ns ≤ 15 := by omega
      have hTn : T.length = 42 * ns := by omega
      replace HS := Lib.hid HS
      replace hs4 := Lib.hid hs4
      replace hTn := Lib.hid hTn
      have hT630 : T.length ≤ 630 := by omega
      replace hT630 := Lib.hid hT630
      clear eT eG hgl hGO hGR hO hTl hGl
      go_wp2_with fail
      refine (hRP.out wr hW.out).mono ?_
      rintro e w1 ⟨v1, rfl, R1, b1⟩
      have B1 := Lib.hid (below_up hW.out b1)
      have HS1 := Lib.hid (HS.out.below b1)
      obtain ⟨A1, n1, c1, rfl, en1, S1⟩ := R1.src (by have := hT630.out; omega)
      have hn1 : n1 ≤ 630 := by have := hT630.out; omega
      replace S1 := Lib.hid S1
      replace en1 := Lib.hid en1
      clear R1 b1 hRP hW HS
      go_wp2_with fail
      refine (PRead_all A1 n1 c1 T w1 (by omega) S1.out.ncap S1.out.cmax S1.out.none0 (Lib.hid S1.out.hb)).mono ?_
      rintro e w2 ⟨v2, rfl, R2, b2⟩
      rw [hall.out] at R2 ⊢
      have B2 := Lib.hid (below_up B1.out b2)
      have HS2 := Lib.hid (HS1.out.below b2)
      have S2 := Lib.hid (S1.out.below b2)
      obtain ⟨A2, n2, c2, rfl, H2, h21, h22, -, h24⟩ := R2.slice
      replace H2 := Lib.hid H2
      replace h24 := Lib.hid h24
      clear R2 b2 B1 HS1 S1
      go_wp2_with fail
      refine (Within_any cut n1 w2 (by omega) t1 t2).mono ?_
      rintro e w2' ⟨rfl, rfl⟩
      have hkk := withinN_le cut n1
      obtain ⟨kk, ekk⟩ : ∃ kk, withinN cut n1 = kk := ⟨_, rfl⟩
      rw [ekk] at hkk ⊢
      have hsl := slice_bytes A1 n1 c1 kk (Nat.le_trans hkk S2.out.ncap)
      have hcc := Lib.hid (hcut.out kk (by have := en1.out; omega))
      have hkc : kk ≤ c1 := Nat.le_trans hkk S2.out.ncap
      clear ekk hcut
      go_wp2_with fail
      refine (PRead_all A1 kk c1 (T.take kk) w2' (by omega) hkc S2.out.cmax S2.out.none0 (Lib.hid (S2.out.hb.take hkk))).mono ?_
      rintro e w3 ⟨v3, rfl, R3, b3⟩
      rw [hcc.out] at R3 ⊢
      have B3 := Lib.hid (below_up B2.out b3)
      have HS3 := Lib.hid (HS2.out.below b3)
      have H23 := Lib.hid (H2.out.below b3)
      obtain ⟨A3, n3, c3, rfl, H3, h31, h32, -, h34⟩ := R3.slice
      have hn3 : n3 ≤ ns := by have := hs4.out; simp only [List.length_take] at h34; omega
      have hn3' : n3 = kk / 42 := by have := hs4.out; have := en1.out; have := hTn.out; simp only [List.length_take] at h34; omega
      have HT3 := Lib.hid (HS3.out.take hn3)
      have H3 : Hid (HR w3 A3 n3 (G.take n3)) := Lib.hid (by rw [hn3']; rw [hn3'] at H3; exact H3)
      have hf : (if kk % 42 = 0 then (0 : Nat) else 10) = 0 ∨ (if kk % 42 = 0 then (0 : Nat) else 10) = 10 := by split <;> simp
      obtain ⟨fz, efz⟩ : ∃ fz : Nat, (if kk % 42 = 0 then (0 : Nat) else 10) = fz := ⟨_, rfl⟩
      rw [efz] at hf ⊢
      have e22 : n2 = ns := by have := hs4.out; have := h24.out; omega
      subst e22
      have dgt : decide ((n2 : Int) < (n3 : Int)) = false := decide_eq_false (by omega)
      have dgt' : ¬ n2 < n3 := by omega
      have hsr := slice_reps As n2 cs n3 (by omega)
      have hTz := Lib.hid (hT.out.below B3.out)
      have hn3l := Lib.hid hn3'
      clear R3 b3 B2 HS2 H2 S2 hcc efz h34 hn3' hsl
      go_wp2_with fail
      refine (Same_yes A2 As n2 c2 cs G w3 (by omega) h21 hs1 H23 HS3).mono ?_
      rintro e w4 ⟨rfl, nq, rfl⟩
      go_wp2_with fail
      refine (Same_yes A3 As n3 c3 cs (G.take n3) (w3.drewN nq) (by omega) h31 (by omega) H3 HT3).mono ?_
      rintro e w5 ⟨rfl, nr, rfl⟩
      have B5 : Hid (Below w.heap.size w (w3.drewN (nq + nr))) := Lib.hid (below_drewN B3.out (nq + nr))
      have T5 : Hid (Tab (w3.drewN (nq + nr))) := Lib.hid (hT.out.below B5.out)
      rcases hf with rfl | rfl
      · go_wp2_with fail
        refine (Known_any _ T5).mono ?_
        rintro e w13 ⟨rfl, b13⟩
        have B13 := Lib.hid (below_up B5.out b13)
        go_wp2_with fail
        go_ret
        exact ⟨rfl, B13.out⟩
      · go_wp2_with fail
        refine (Known_any _ T5).mono ?_
        rintro e w13 ⟨rfl, b13⟩
        have B13 := Lib.hid (below_up B5.out b13)
        go_wp2_with fail
        go_ret
        exact ⟨rfl, B13.out⟩
end Go.Proofs.YtjhfgajhmenboaaDoor
