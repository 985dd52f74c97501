/-
  Contracts: Take, Top, of level.
-/
import Derived.Test.YtlknlicokacoiaaLvAct
namespace Go.Proofs.Ytlknlicokacoiaa
open Go.RowKit
set_option linter.unusedVariables false
set_option linter.unusedSimpArgs false

theorem linkL_set (L : List Pl) (i : Nat) (r z : Pl) (p x : Int) (hp : -1 ≤ p) (hx : -1 ≤ x) : (linkL (L.set i r) p x).set i z = (linkL L p x).set i z := by
  apply List.ext_getElem?
  intro j
  rw [set_get, set_get, linkL_len, linkL_len, List.length_set]
  by_cases hj : i = j
  · rw [if_pos hj, if_pos hj]
  · rw [if_neg hj, if_neg hj, linkL_get _ _ _ hp hx, linkL_get _ _ _ hp hx, set_get, if_neg hj]
theorem turned_get {L : List Pl} {i : Nat} {r : Pl} (h : L[i]? = some r) (n : Int) (t : Bool) (j : Nat) : (L.set i { r with n := n, t := t })[j]? = if j = i then (L[j]?).map (fun r => { r with n := n, t := t }) else L[j]? := by
  rw [set_get]
  by_cases hj : i = j
  · subst hj; rw [if_pos rfl, if_pos (List.getElem?_eq_some_iff.1 h).1, if_pos rfl, h]; rfl
  · rw [if_neg hj, if_neg (fun e => hj e.symm)]
set_option maxRecDepth 100000 in
set_option maxHeartbeats 2000000 in
theorem Take_any (B c : Nat) (F : Nat → Prop) (st : St) (slot n : Int) (w : World) (hA0 : Hid (AR B c F st w)) (hQ : st.Q.length ≤ 1000000) (hn : I64 n) :
    Calls Try.prog 43 #[.pointer (some ⟨c, 0, none⟩), .int .i64 slot, .int .i64 n] w fun e w' => e = .returned (.int .i64 (takeO st slot n).1) ∧ AR B c F (takeO st slot n).2 w' ∧ Only F w w' := by
  obtain ⟨s, v, L, E, eF, hA, hI, hB⟩ := hA0.out
  replace hA := Lib.hid hA
  replace hI := Lib.hid hI
  have hEl : E.length ≤ 9223372036854775807 := by rw [hI.out.elen]; omega
  have HU := Lib.hid (Used_any c s v L E slot w hA)
  have hself : Hid (Only F w w) := Lib.hid (Only.refl _ _)
  rcases hf : findQ slot st.Q 0 with _ | ⟨k, A, e, C⟩
  · have eP : takeO st slot n = (26, st) := by unfold takeO; rw [hf]
    rw [eP]
    rw [hI.out.noSlot hf] at HU
    clear eP hf hA hI hB eF hEl
    go_enter Try.func43, Try.ntmps43
    go_wp2_with fail
    refine HU.out.mono ?_
    rintro e w' ⟨rfl, rfl⟩
    go_wp2_with fail
    go_ret
    exact ⟨rfl, hA0.out, hself.out⟩
  · obtain ⟨hl, es, hL, n1, n2, hi, sL, kE, hu⟩ := hI.out.atSlot hf
    rw [hu] at HU
    subst es
    obtain ⟨x0, x1, f0, f1⟩ := hA.out.cells
    obtain ⟨⟨p0, p1, p2, p3, p4, p5, p6⟩, ⟨y0, y1, y2, y3, y4, y5, y6⟩⟩ := hA.out.seven hL
    have hr := hA.out.room
    obtain ⟨N, eN⟩ : ∃ N, L.length = N := ⟨_, rfl⟩
    rw [eN] at x0 hr sL
    have hlt := Lib.hid (slot_ls hI.out.ok hl (A := A) (fun x hx => List.mem_append.2 (.inl hx)))
    have hht := Lib.hid (slot_hd hI.out.ok hl (C := C) (fun x hx => List.mem_append.2 (.inr (List.mem_cons_of_mem _ hx))))
    rw [← hI.out.len, eN] at hlt hht
    have hgone := Lib.hid (hI.out.gone hl)
    have hturn := Lib.hid (fun (h : 1 ≤ e.n - n) (h2 : 1 ≤ n) => hI.out.turned (e' := { e with n := e.n - n }) (L' := L.set e.s { (⟨(e.s : Int), e.i, e.n, e.t, (k : Int), lsS A (-1), hdS C (-1)⟩ : Pl) with n := e.n - n, t := e.t }) hl rfl rfl h (by show e.n - n ≤ 1000000; omega) (List.length_set) (turned_get hL (e.n - n) e.t))
    have eT : takeO st (e.s : Int) n = if n < 1 ∨ e.n < n then (24, st) else if e.n - n = 0 then (0, st.gone k e.s (A ++ C)) else (0, st.turned k (A ++ { e with n := e.n - n } :: C)) := by unfold takeO; rw [hf]
    rw [eT]
    have ge1 := lsS_ge A
    have ge2 := hdS_ge C
    obtain ⟨pp, epp⟩ : ∃ b, lsS A (-1) = b := ⟨_, rfl⟩
    obtain ⟨xx, exx⟩ : ∃ b, hdS C (-1) = b := ⟨_, rfl⟩
    rw [epp, exx] at hL hgone hturn
    rw [epp] at hlt p5 ge1
    rw [exx] at hht p6 ge2
    obtain ⟨m, i, x, t⟩ := e
    simp only at HU p0 p1 p2 p3 p4 p5 p6 y0 y1 y2 y3 y4 y5 y6 sL hL n1 n2 hgone hturn hl ⊢
    clear eT hf epp exx hu
    replace hL := Lib.hid hL
    replace eN := Lib.hid eN
    replace hl := Lib.hid hl
    by_cases c1 : n < 1
    · rw [if_pos (.inl c1)]
      have d1 : decide (n < 1) = true := decide_eq_true c1
      go_enter Try.func43, Try.ntmps43
      go_wp2_with fail
      refine HU.out.mono ?_
      rintro e w' ⟨rfl, rfl⟩
      go_wp2_with fail
      go_ret
      exact ⟨rfl, hA0.out, hself.out⟩
    · have d1 : decide (n < 1) = false := decide_eq_false c1
      by_cases c2 : x < n
      · rw [if_pos (.inr c2)]
        go_enter Try.func43, Try.ntmps43
        go_wp2_with fail
        refine HU.out.mono ?_
        rintro e w' ⟨rfl, rfl⟩
        go_wp2_with fail
        go_ret
        exact ⟨rfl, hA0.out, hself.out⟩
      · rw [if_neg (by omega)]
        subst eF
        have q1 : 1 ≤ n := by omega
        have q2 : n ≤ x := by omega
        go_enter Try.func43, Try.ntmps43
        go_wp2_with fail
        refine HU.out.mono ?_
        rintro e w' ⟨rfl, rfl⟩
        clear HU
        go_upto_region 6 with (fail)
        obtain ⟨W1, eW⟩ : ∃ W, w.setCell ⟨s, m * 7 + 2, none⟩ (.int .i64 (x - n)) = W := ⟨_, rfl⟩
        rw [eW]
        have A1 : Hid (Ar c s v (L.set m ⟨(m : Int), i, x - n, t, (k : Int), pp, xx⟩) E W1) := Lib.hid (by
          rw [← eW]; exact Ar.setP (r' := ⟨(m : Int), i, x - n, t, (k : Int), pp, xx⟩) (m := 2) hA.out hL.out (by omega) rfl)
        have O1 : Hid (Only (foot c s v) w W1) := Lib.hid (by rw [← eW]; exact foot_set (.inr (.inl rfl)))
        have hL1 : (L.set m ⟨(m : Int), i, x - n, t, (k : Int), pp, xx⟩)[m]? = some ⟨(m : Int), i, x - n, t, (k : Int), pp, xx⟩ := by rw [set_get, if_pos rfl, if_pos (by rw [eN.out]; exact sL)]
        have HU := Lib.hid (Used_any c s v _ E (m : Int) W1 A1)
        rw [usedL_at hL1] at HU
        simp only at HU
        replace hL1 := Lib.hid hL1
        clear eW p0 p1 p2 p3 p4 p5 p6 y0 y1 y2 y3 y4 y5 y6 x0 x1 f0 f1
        by_cases c3 : x - n = 0
        · rw [show decide (0 < x - n) = false from decide_eq_false (by omega)] at HU
          have hE' : Hid (E.length ≤ 9223372036854775807) := Lib.hid hEl
          have kE' : Hid (k < E.length) := Lib.hid kE
          replace c3 := Lib.hid c3
          go_wp2_with fail
          refine HU.out.mono ?_
          rintro e w' ⟨rfl, rfl⟩
          go_wp2_with fail
          refine (Remove_any c s v _ E m k ⟨(m : Int), i, x - n, t, (k : Int), pp, xx⟩ W1 A1 hE'.out kE'.out hL1 rfl (Lib.hid (by rw [List.length_set, eN.out]; exact hlt.out)) (Lib.hid (by rw [List.length_set, eN.out]; exact hht.out))).mono ?_
          rintro e W2 ⟨rfl, A2, O2⟩
          replace A2 := Lib.hid A2
          replace O2 := Lib.hid (O1.out.trans O2)
          go_wp2_with fail
          go_ret
          (try rw [if_pos c3.out])
          refine ⟨rfl, ⟨s, v, _, _, rfl, ?_, hgone.out, hB⟩, O2.out⟩
          have := A2.out
          rw [linkL_set _ _ _ _ _ _ ge1 ge2] at this
          exact this
        · rw [show decide (0 < x - n) = true from decide_eq_true (by omega)] at HU
          have ht := Lib.hid (hturn.out (by omega) q1)
          replace c3 := Lib.hid c3
          go_wp2_with fail
          refine HU.out.mono ?_
          rintro e w' ⟨rfl, rfl⟩
          go_wp2_with fail
          go_ret
          (try rw [if_neg c3.out])
          exact ⟨rfl, ⟨s, v, _, _, rfl, A1.out, ht.out, hB⟩, O1.out⟩
set_option maxRecDepth 100000 in
set_option maxHeartbeats 2000000 in
theorem Top_any (B c : Nat) (F : Nat → Prop) (st : St) (slot : Int) (t' : Bool) (w : World) (hA0 : Hid (AR B c F st w)) (hQ : st.Q.length ≤ 1000000) :
    Calls Try.prog 53 #[.pointer (some ⟨c, 0, none⟩), .int .i64 slot, .bool t'] w fun e w' => e = .returned (.int .i64 (topO st slot t').1) ∧ AR B c F (topO st slot t').2 w' ∧ Only F w w' := by
  obtain ⟨s, v, L, E, eF, hA, hI, hB⟩ := hA0.out
  replace hA := Lib.hid hA
  replace hI := Lib.hid hI
  have HU := Lib.hid (Used_any c s v L E slot w hA)
  have hself : Hid (Only F w w) := Lib.hid (Only.refl _ _)
  rcases hf : findQ slot st.Q 0 with _ | ⟨k, A, e, C⟩
  · have eP : topO st slot t' = (26, st) := by unfold topO; rw [hf]
    rw [eP]
    rw [hI.out.noSlot hf] at HU
    clear eP hf hA hI hB eF
    go_enter Try.func53, Try.ntmps53
    go_wp2_with fail
    refine HU.out.mono ?_
    rintro e w' ⟨rfl, rfl⟩
    go_wp2_with fail
    go_ret
    exact ⟨rfl, hA0.out, hself.out⟩
  · obtain ⟨hl, es, hL, n1, n2, hi, sL, kE, hu⟩ := hI.out.atSlot hf
    rw [hu] at HU
    subst es
    obtain ⟨x0, x1, f0, f1⟩ := hA.out.cells
    obtain ⟨⟨p0, p1, p2, p3, p4, p5, p6⟩, ⟨y0, y1, y2, y3, y4, y5, y6⟩⟩ := hA.out.seven hL
    have hr := hA.out.room
    obtain ⟨N, eN⟩ : ∃ N, L.length = N := ⟨_, rfl⟩
    rw [eN] at x0 hr sL
    have hturn := Lib.hid (hI.out.turned (e' := { e with t := t' }) (L' := L.set e.s { (⟨(e.s : Int), e.i, e.n, e.t, (k : Int), lsS A (-1), hdS C (-1)⟩ : Pl) with n := e.n, t := t' }) hl rfl rfl n1 n2 (List.length_set) (turned_get hL e.n t'))
    have eT : topO st (e.s : Int) t' = (0, st.turned k (A ++ { e with t := t' } :: C)) := by unfold topO; rw [hf]
    rw [eT]
    obtain ⟨m, i, x, t⟩ := e
    simp only at HU p0 p1 p2 p3 p4 p5 p6 y0 y1 y2 y3 y4 y5 y6 sL hL n1 n2 hturn hl ⊢
    have fin1 := Lib.hid (Ar.setP (r' := ⟨(m : Int), i, x, t', (k : Int), lsS A (-1), hdS C (-1)⟩) (m := 3) (v := .bool t') hA.out hL (by omega) rfl)
    subst eF
    have fin2 : Hid (Only (foot c s v) w (w.setCell ⟨s, m * 7 + 3, none⟩ (.bool t'))) := Lib.hid (foot_set (.inr (.inl rfl)))
    clear eT hf hu hl hL eN
    go_enter Try.func53, Try.ntmps53
    go_wp2_with fail
    refine HU.out.mono ?_
    rintro e w' ⟨rfl, rfl⟩
    go_wp2_with fail
    go_ret
    exact ⟨rfl, ⟨s, v, _, _, rfl, fin1.out, hturn.out, hB⟩, fin2.out⟩
end Go.Proofs.Ytlknlicokacoiaa
