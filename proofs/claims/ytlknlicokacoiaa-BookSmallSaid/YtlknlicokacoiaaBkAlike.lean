/-
  Contract of the law package: alike: both books tell the same.
-/
import Derived.Test.YtlknlicokacoiaaBkDo
import Derived.Test.YtlknlicokacoiaaBkLike2
import Derived.Laws.Unary
import Derived.Deep.CutBlock
namespace Go.Proofs.Ytlknlicokacoiaa
open Go.RowKit
set_option linter.unusedVariables false
set_option linter.unusedSimpArgs false
set_option linter.constructorNameAsVariable false

theorem at_len' {L : List Or} (h : LOk L) (s p : Int) : (atO L s p).length ≤ 250 := by
  have := List.length_filter_le (fun x : Or => decide (x.s = s) && decide (x.p = p)) L
  have h5 := h.room
  unfold atO; omega
theorem lad_len' {L : List Or} (s : Int) : ∀ (K : List Or) (out : List Lv), (K.foldl (ladStep s) out).length ≤ out.length + K.length := by
  intro K
  induction K with
  | nil => intro out; simp
  | cons x K ih =>
    intro out
    have h1 := ih (ladStep s out x)
    have h2 : (ladStep s out x).length ≤ out.length + 1 := by
      unfold ladStep
      split
      · omega
      · split
        · simp
        · split
          · simp <;> omega
          · simp
    rw [List.foldl_cons, List.length_cons]; omega
noncomputable def bdAt : Code := ((loopsOf (Try.f12.body.getD .skip))[1]?).getD .skip
set_option maxRecDepth 100000 in
set_option maxHeartbeats 4000000 in
theorem LAlike_at {Q0 : Exit → Act → World → Prop} {c2 c3 c4 c6 c7 c8 c9 c11 c12 c13 c14 c15 c16 c17 c18 c19 c20 c21 c22 c23 c24 c25 c26 c27 c28 c29 c30 c31 c32 c33 c34 c35 c36 c37 c38 c39 c40 c41 c42 c43 c44 c45 c46 c47 c48 c49 c50 c51 c52 c53 c54 c55 c56 c57 c58 c59 c60 c61 c62 c63 c64 c65 c66 c67 c68 c69 c70 c71 c72 c73 c74 c75 c76 c77 c78 c79 c80 c81 c82 c83 c84 c85 c86 c87 c88 c89 c90 c91 c92 c93 c94 c95 c96 c97 c98 c99 c100 c101 : Value} {B B2 b d : Nat} {G : Nat → Prop} {v : Value} {s : Int} {L : List Or} {w1 : World} (hP : Hid (PairAt B B2 b d G v L w1))
    (hQp : Hid (∀ c (a : Act) d v w, Q0 (.panic c) (a.put d v) w → Q0 (.panic c) a w)) (hX : Hid (∀ (u4 u10 u48 u49 u50 u51 u52 u53 u54 u55 u56 u57 u58 u59 u60 u61 u62 u63 u64 u65 u66 u67 u68 u69 u70 u71 u72 u73 u74 u75 u76 u77 u78 u79 u80 u81 u82 u83 u84 : Value) (w2 : World), Hid (Below w1.heap.size w1 w2) → Q0 (.exit 2) ⟨List.toArray (.pointer (some ⟨b, 0, none⟩) :: .pointer (some ⟨d, 0, none⟩) :: c2 :: c3 :: u4 :: .int .i64 s :: c6 :: c7 :: c8 :: c9 :: u10 :: c11 :: c12 :: c13 :: c14 :: c15 :: c16 :: c17 :: c18 :: c19 :: c20 :: c21 :: c22 :: c23 :: c24 :: c25 :: c26 :: c27 :: c28 :: c29 :: c30 :: c31 :: c32 :: c33 :: c34 :: c35 :: c36 :: c37 :: c38 :: c39 :: c40 :: c41 :: c42 :: c43 :: c44 :: c45 :: c46 :: c47 :: u48 :: u49 :: u50 :: u51 :: u52 :: u53 :: u54 :: u55 :: u56 :: u57 :: u58 :: u59 :: u60 :: u61 :: u62 :: u63 :: u64 :: u65 :: u66 :: u67 :: u68 :: u69 :: u70 :: u71 :: u72 :: u73 :: u74 :: u75 :: u76 :: u77 :: u78 :: u79 :: u80 :: u81 :: u82 :: u83 :: u84 :: c85 :: c86 :: c87 :: c88 :: c89 :: c90 :: c91 :: c92 :: c93 :: c94 :: c95 :: c96 :: c97 :: c98 :: c99 :: c100 :: c101 :: []), []⟩ w2)) :
    Code.wp Try.prog (.loop bdAt) Q0 ⟨List.toArray (.pointer (some ⟨b, 0, none⟩) :: .pointer (some ⟨d, 0, none⟩) :: c2 :: c3 :: c4 :: .int .i64 s :: c6 :: c7 :: c8 :: c9 :: .int .i64 0 :: c11 :: c12 :: c13 :: c14 :: c15 :: c16 :: c17 :: c18 :: c19 :: c20 :: c21 :: c22 :: c23 :: c24 :: c25 :: c26 :: c27 :: c28 :: c29 :: c30 :: c31 :: c32 :: c33 :: c34 :: c35 :: c36 :: c37 :: c38 :: c39 :: c40 :: c41 :: c42 :: c43 :: c44 :: c45 :: c46 :: c47 :: c48 :: c49 :: c50 :: c51 :: c52 :: c53 :: c54 :: c55 :: c56 :: c57 :: c58 :: c59 :: c60 :: c61 :: c62 :: c63 :: c64 :: c65 :: c66 :: c67 :: c68 :: c69 :: c70 :: c71 :: c72 :: c73 :: c74 :: c75 :: c76 :: c77 :: c78 :: c79 :: c80 :: c81 :: c82 :: c83 :: c84 :: c85 :: c86 :: c87 :: c88 :: c89 :: c90 :: c91 :: c92 :: c93 :: c94 :: c95 :: c96 :: c97 :: c98 :: c99 :: c100 :: c101 :: []), []⟩ w1 := by
  have hL := hP.out.k.lok.room
  obtain ⟨A, cap, ev, -, y1, y2, -, -⟩ := hP.out.r.own.slice
  obtain ⟨nl, en⟩ : ∃ x, L.length = x := ⟨_, rfl⟩
  have hL2 : L.length ≤ 250 := hL
  rw [en] at ev hL y1
  have hcell : Hid (∀ W, Below w1.heap.size w1 W → W.cell? ⟨d, 0, none⟩ = some (.slice A nl cap) ∧ HV fO W A nl L) := Lib.hid (fun W h => by
    have h1 := hP.out.r.below h
    obtain ⟨A', cap', ev', hv', -, -, -, -⟩ := h1.own.slice
    have e2 := ev'.symm.trans ev
    injection e2 with e3 e4 e5
    refine ⟨by rw [h1.cell.1, ev], ?_⟩
    rw [← e3, ← en]; exact hv')
  replace en := Lib.hid en
  replace ev := Lib.hid ev
  conv => arg 2; arg 1; whnf
  go_loopw [10] (fun iv wr => ∃ (j : Nat), iv = .int .i64 j ∧ j ≤ nl ∧ j ≤ 10 ∧ Hid (Below w1.heap.size w1 wr)) (fun iv _ => (10 - intOf iv).toNat)
  case atStart => exact ⟨0, rfl, by omega, by omega, Lib.hid (Below.refl _ _)⟩
  case round =>
    obtain ⟨j, rfl, hj, hj10, hB⟩ := hrel
    obtain ⟨c0, -⟩ := hcell.out wr hB.out
    by_cases hlt : j < nl ∧ j < 10
    · obtain ⟨h1, h2⟩ := hlt
      have g1 : decide ((j : Int) < (nl : Int)) = true := decide_eq_true (by omega)
      have g2 : (j : Int) < (nl : Int) := by omega
      have g3 : decide (j < nl) = true := decide_eq_true h1
      have g4 : decide ((j : Int) < 10) = true := decide_eq_true (by omega)
      obtain ⟨x, hx⟩ : ∃ x, L[j]? = some x := ⟨_, List.getElem?_eq_getElem (by rw [en.out]; exact h1)⟩
      obtain ⟨yb, yo, rfl, -⟩ := (hcell.out wr hB.out).2.atO hx
      obtain ⟨xp, exp⟩ : ∃ p, x.p = p := ⟨_, rfl⟩
      have hBd : Hid (Below w1.heap.size w1 wr.drew) := Lib.hid ⟨hB.out.os, hB.out.tape, hB.out.output, hB.out.size, hB.out.block⟩
      have LL : Hid (∀ W : World, Below w1.heap.size w1 W → (fun W : World => W.cell? ⟨d, 0, none⟩ = some (.slice (some ⟨yb, yo, none⟩) nl cap) ∧ W.cell? ⟨yb, yo + j * 5 + 2, none⟩ = some (.int .i64 xp)) W) := Lib.hid (fun W h => by
        obtain ⟨q1, q2⟩ := hcell.out W h
        obtain ⟨b', o', e1, -, -, q3, -⟩ := q2.atO hx
        injection e1 with e1
        injection e1 with e1 e2
        subst e1; subst e2
        rw [exp] at q3
        exact ⟨q1, q3⟩)
      have z0 := LL.out wr.drew hBd.out
      simp only at z0
      have HAt := BAt_any B b G L s xp wr.drew (Lib.hid (hP.out.k.below hBd.out))
      obtain ⟨E, eE⟩ : ∃ E, atO L s xp = E := ⟨_, rfl⟩
      rw [eE] at HAt
      obtain ⟨nk, enk⟩ : ∃ k, E.length = k := ⟨_, rfl⟩
      have hnk : nk ≤ 250 := by rw [← enk, ← eE]; exact at_len' hP.out.k.lok _ _
      replace HAt := Lib.hid HAt
      replace eE := Lib.hid eE
      replace hx := Lib.hid hx
      replace exp := Lib.hid exp
      go_wp2_with fail
      go_upto_region 11 with (fail)
      refine wp_region_held_drew (S := (fun W : World => W.cell? ⟨d, 0, none⟩ = some (.slice (some ⟨yb, yo, none⟩) nl cap) ∧ W.cell? ⟨yb, yo + j * 5 + 2, none⟩ = some (.int .i64 xp))) (by kernel_rfl) z0 (fun hHeld => ?_)
      refine wpAnyH_take (i := 0) (v := .pointer (some ⟨b, 0, none⟩)) rfl (by kernel_rfl) (by kernel_rfl) (by kernel_rfl) (fun _ _ _ h => hQp.out _ _ _ _ _ h) (Or.inl ⟨by kernel_rfl, fun W hSw => ?_⟩) (by assumption) ?_
      · (try dsimp only at hSw)
        go_simp
      (try simp only [Act.put, List.setIfInBounds_toArray, List.set_cons_zero, List.set_cons_succ])
      refine wpAnyH_take (i := 1) (v := .int .i64 s) rfl (by kernel_rfl) (by kernel_rfl) (by kernel_rfl) (fun _ _ _ h => hQp.out _ _ _ _ _ h) (Or.inl ⟨by kernel_rfl, fun W hSw => ?_⟩) (by assumption) ?_
      · (try dsimp only at hSw)
        go_simp
      (try simp only [Act.put, List.setIfInBounds_toArray, List.set_cons_zero, List.set_cons_succ])
      refine wpAnyH_take (i := 2) (v := .pointer (some ⟨d, 0, none⟩)) rfl (by kernel_rfl) (by kernel_rfl) (by kernel_rfl) (fun _ _ _ h => hQp.out _ _ _ _ _ h) (Or.inl ⟨by kernel_rfl, fun W hSw => ?_⟩) (by assumption) ?_
      · (try dsimp only at hSw)
        go_simp
      (try simp only [Act.put, List.setIfInBounds_toArray, List.set_cons_zero, List.set_cons_succ])
      refine wpAnyH_take (i := 3) (v := .pointer (some ⟨d, 0, none⟩)) rfl (by kernel_rfl) (by kernel_rfl) (by kernel_rfl) (fun _ _ _ h => hQp.out _ _ _ _ _ h) (Or.inl ⟨by kernel_rfl, fun W hSw => ?_⟩) (by assumption) ?_
      · (try dsimp only at hSw)
        go_simp
      (try simp only [Act.put, List.setIfInBounds_toArray, List.set_cons_zero, List.set_cons_succ])
      refine wpAnyH_take (i := 4) (v := .pointer (some ⟨d, 0, none⟩)) rfl (by kernel_rfl) (by kernel_rfl) (by kernel_rfl) (fun _ _ _ h => hQp.out _ _ _ _ _ h) (Or.inl ⟨by kernel_rfl, fun W hSw => ?_⟩) (by assumption) ?_
      · (try dsimp only at hSw)
        go_simp
      (try simp only [Act.put, List.setIfInBounds_toArray, List.set_cons_zero, List.set_cons_succ])
      refine wpAnyH_take (i := 5) (v := .slice (some ⟨yb, yo, none⟩) nl cap) rfl (by kernel_rfl) (by kernel_rfl) (by kernel_rfl) (fun _ _ _ h => hQp.out _ _ _ _ _ h) (Or.inl ⟨by kernel_rfl, fun W hSw => ?_⟩) (by assumption) ?_
      · (try dsimp only at hSw)
        go_simp
      (try simp only [Act.put, List.setIfInBounds_toArray, List.set_cons_zero, List.set_cons_succ])
      refine wpAnyH_take (i := 6) (v := .int .i64 (j : Int)) rfl (by kernel_rfl) (by kernel_rfl) (by kernel_rfl) (fun _ _ _ h => hQp.out _ _ _ _ _ h) (Or.inl ⟨by kernel_rfl, fun W hSw => ?_⟩) (by assumption) ?_
      · (try dsimp only at hSw)
        go_simp
      (try simp only [Act.put, List.setIfInBounds_toArray, List.set_cons_zero, List.set_cons_succ])
      refine wpAnyH_take (i := 7) (v := .pointer (some ⟨yb, yo + j * 5, none⟩)) rfl (by kernel_rfl) (by kernel_rfl) (by kernel_rfl) (fun _ _ _ h => hQp.out _ _ _ _ _ h) (Or.inl ⟨by kernel_rfl, fun W hSw => ?_⟩) (by assumption) ?_
      · (try dsimp only at hSw)
        go_simp
      (try simp only [Act.put, List.setIfInBounds_toArray, List.set_cons_zero, List.set_cons_succ])
      refine wpAnyH_take (i := 8) (v := .pointer (some ⟨yb, yo + j * 5 + 2, none⟩)) rfl (by kernel_rfl) (by kernel_rfl) (by kernel_rfl) (fun _ _ _ h => hQp.out _ _ _ _ _ h) (Or.inl ⟨by kernel_rfl, fun W hSw => ?_⟩) (by assumption) ?_
      · (try dsimp only at hSw)
        go_simp
      (try simp only [Act.put, List.setIfInBounds_toArray, List.set_cons_zero, List.set_cons_succ])
      refine wpAnyH_take (i := 9) (v := .int .i64 xp) rfl (by kernel_rfl) (by kernel_rfl) (by kernel_rfl) (fun _ _ _ h => hQp.out _ _ _ _ _ h) (Or.inl ⟨by kernel_rfl, fun W hSw => ?_⟩) (by assumption) ?_
      · (try dsimp only at hSw)
        go_simp
      (try simp only [Act.put, List.setIfInBounds_toArray, List.set_cons_zero, List.set_cons_succ])
      refine wpAnyH_take (i := 11) (v := .pointer (some ⟨d, 0, none⟩)) rfl (by kernel_rfl) (by kernel_rfl) (by kernel_rfl) (fun _ _ _ h => hQp.out _ _ _ _ _ h) (Or.inl ⟨by kernel_rfl, fun W hSw => ?_⟩) (by assumption) ?_
      · (try dsimp only at hSw)
        go_simp
      (try simp only [Act.put, List.setIfInBounds_toArray, List.set_cons_zero, List.set_cons_succ])
      refine wpAnyH_take (i := 12) (v := .int .i64 s) rfl (by kernel_rfl) (by kernel_rfl) (by kernel_rfl) (fun _ _ _ h => hQp.out _ _ _ _ _ h) (Or.inl ⟨by kernel_rfl, fun W hSw => ?_⟩) (by assumption) ?_
      · (try dsimp only at hSw)
        go_simp
      (try simp only [Act.put, List.setIfInBounds_toArray, List.set_cons_zero, List.set_cons_succ])
      refine wpAnyH_take (i := 13) (v := .pointer (some ⟨d, 0, none⟩)) rfl (by kernel_rfl) (by kernel_rfl) (by kernel_rfl) (fun _ _ _ h => hQp.out _ _ _ _ _ h) (Or.inl ⟨by kernel_rfl, fun W hSw => ?_⟩) (by assumption) ?_
      · (try dsimp only at hSw)
        go_simp
      (try simp only [Act.put, List.setIfInBounds_toArray, List.set_cons_zero, List.set_cons_succ])
      refine wpAnyH_take (i := 14) (v := .pointer (some ⟨d, 0, none⟩)) rfl (by kernel_rfl) (by kernel_rfl) (by kernel_rfl) (fun _ _ _ h => hQp.out _ _ _ _ _ h) (Or.inl ⟨by kernel_rfl, fun W hSw => ?_⟩) (by assumption) ?_
      · (try dsimp only at hSw)
        go_simp
      (try simp only [Act.put, List.setIfInBounds_toArray, List.set_cons_zero, List.set_cons_succ])
      refine wpAnyH_take (i := 15) (v := .pointer (some ⟨d, 0, none⟩)) rfl (by kernel_rfl) (by kernel_rfl) (by kernel_rfl) (fun _ _ _ h => hQp.out _ _ _ _ _ h) (Or.inl ⟨by kernel_rfl, fun W hSw => ?_⟩) (by assumption) ?_
      · (try dsimp only at hSw)
        go_simp
      (try simp only [Act.put, List.setIfInBounds_toArray, List.set_cons_zero, List.set_cons_succ])
      refine wpAnyH_take (i := 16) (v := .slice (some ⟨yb, yo, none⟩) nl cap) rfl (by kernel_rfl) (by kernel_rfl) (by kernel_rfl) (fun _ _ _ h => hQp.out _ _ _ _ _ h) (Or.inl ⟨by kernel_rfl, fun W hSw => ?_⟩) (by assumption) ?_
      · (try dsimp only at hSw)
        go_simp
      (try simp only [Act.put, List.setIfInBounds_toArray, List.set_cons_zero, List.set_cons_succ])
      refine wpAnyH_take (i := 17) (v := .int .i64 (j : Int)) rfl (by kernel_rfl) (by kernel_rfl) (by kernel_rfl) (fun _ _ _ h => hQp.out _ _ _ _ _ h) (Or.inl ⟨by kernel_rfl, fun W hSw => ?_⟩) (by assumption) ?_
      · (try dsimp only at hSw)
        go_simp
      (try simp only [Act.put, List.setIfInBounds_toArray, List.set_cons_zero, List.set_cons_succ])
      refine wpAnyH_take (i := 18) (v := .pointer (some ⟨yb, yo + j * 5, none⟩)) rfl (by kernel_rfl) (by kernel_rfl) (by kernel_rfl) (fun _ _ _ h => hQp.out _ _ _ _ _ h) (Or.inl ⟨by kernel_rfl, fun W hSw => ?_⟩) (by assumption) ?_
      · (try dsimp only at hSw)
        go_simp
      (try simp only [Act.put, List.setIfInBounds_toArray, List.set_cons_zero, List.set_cons_succ])
      refine wpAnyH_take (i := 19) (v := .pointer (some ⟨yb, yo + j * 5 + 2, none⟩)) rfl (by kernel_rfl) (by kernel_rfl) (by kernel_rfl) (fun _ _ _ h => hQp.out _ _ _ _ _ h) (Or.inl ⟨by kernel_rfl, fun W hSw => ?_⟩) (by assumption) ?_
      · (try dsimp only at hSw)
        go_simp
      (try simp only [Act.put, List.setIfInBounds_toArray, List.set_cons_zero, List.set_cons_succ])
      refine wpAnyH_take (i := 20) (v := .int .i64 xp) rfl (by kernel_rfl) (by kernel_rfl) (by kernel_rfl) (fun _ _ _ h => hQp.out _ _ _ _ _ h) (Or.inl ⟨by kernel_rfl, fun W hSw => ?_⟩) (by assumption) ?_
      · (try dsimp only at hSw)
        go_simp
      (try simp only [Act.put, List.setIfInBounds_toArray, List.set_cons_zero, List.set_cons_succ])
      refine wpAnyH_ready (rs := [10]) (by kernel_rfl) (by simp) ?_
      refine AllReadyH.cons rfl (fun K hK => ?_) AllReadyH.nil
      go_simp
      refine HAt.out.mono ?_
      rintro e w5 ⟨v5, rfl, O5, b5⟩
      obtain ⟨A5, cap5, rfl, hv5, t1, t2, -, -⟩ := O5.slice
      rw [enk] at t1 hv5 ⊢
      have hB5 := Lib.hid (hBd.out.trans (b5.mono hBd.out.size))
      have z5 := LL.out w5 hB5.out
      have HR := Lib.hid (RAt_any B2 d v L s xp w5 (Lib.hid (hP.out.r.below hB5.out)) (by omega))
      rw [eE.out] at HR
      replace hv5 := Lib.hid hv5
      clear O5 b5
      refine hK.out _ _ z5 (fun hHeld => ?_)
      clear hK K
      (try simp only [Act.put, List.setIfInBounds_toArray, List.set_cons_zero, List.set_cons_succ])
      refine wpAnyH_ready (rs := [21]) (by kernel_rfl) (by simp) ?_
      refine AllReadyH.cons rfl (fun K hK => ?_) AllReadyH.nil
      go_simp
      refine HR.out.mono ?_
      rintro e w6 ⟨v6, rfl, O6, b6⟩
      obtain ⟨A6, cap6, rfl, hv6, t3, t4, -, -⟩ := O6.slice
      rw [enk] at t3 hv6 ⊢
      have hB6 := Lib.hid (hB5.out.trans (b6.mono hB5.out.size))
      have z6 := LL.out w6 hB6.out
      have hv5' := Lib.hid (hv5.out.below b6)
      have HO := Lib.hid (LOrders_any A5 A6 nk cap5 cap6 E w6 (by omega) t1 t3 hv5' (Lib.hid hv6))
      clear O6 b6
      refine hK.out _ _ z6 (fun hHeld => ?_)
      clear hK K
      (try simp only [Act.put, List.setIfInBounds_toArray, List.set_cons_zero, List.set_cons_succ])
      refine wpAnyH_ready (rs := [22]) (by kernel_rfl) (by simp) ?_
      refine AllReadyH.cons rfl (fun K hK => ?_) AllReadyH.nil
      go_simp
      refine HO.out.mono ?_
      rintro e w7 ⟨rfl, b7⟩
      have hB7 := Lib.hid (hB6.out.trans (b7.mono hB6.out.size))
      have z7 := LL.out w7 hB7.out
      clear b7
      refine hK.out _ _ z7 (fun hHeld => ?_)
      clear hK K
      (try simp only [Act.put, List.setIfInBounds_toArray, List.set_cons_zero, List.set_cons_succ])
      refine wpAnyH_take (i := 23) (v := .bool false) rfl (by kernel_rfl) (by kernel_rfl) (by kernel_rfl) (fun _ _ _ h => hQp.out _ _ _ _ _ h) (Or.inl ⟨by kernel_rfl, fun W hSw => ?_⟩) (by assumption) ?_
      · (try dsimp only at hSw)
        go_simp
      (try simp only [Act.put, List.setIfInBounds_toArray, List.set_cons_zero, List.set_cons_succ])
      refine wpAnyH_done (by kernel_rfl) ?_ _
      clear z0 z5 z6 z7 HAt HR HO hHeld LL
      replace enk := Lib.hid enk
      go_wp2_with fail
      go_roundw
      case rel => exact ⟨j + 1, by go_num, by omega, by omega, hB7⟩
      case measure => simp [intOf]; omega
    · by_cases hin : j < nl
      · have g1 : decide ((j : Int) < (nl : Int)) = true := decide_eq_true (by omega)
        have g3 : decide (j < nl) = true := decide_eq_true hin
        have g4 : decide ((j : Int) < 10) = false := decide_eq_false (by omega)
        go_wp2_with fail
        exact hX.out _ _ _ _ _ _ _ _ _ _ _ _ _ _ _ _ _ _ _ _ _ _ _ _ _ _ _ _ _ _ _ _ _ _ _ _ _ _ _ _ hB
      · have g1 : decide ((j : Int) < (nl : Int)) = false := decide_eq_false (by omega)
        have g3 : decide (j < nl) = false := decide_eq_false hin
        go_wp2_with fail
        exact hX.out _ _ _ _ _ _ _ _ _ _ _ _ _ _ _ _ _ _ _ _ _ _ _ _ _ _ _ _ _ _ _ _ _ _ _ _ _ _ _ _ hB
set_option maxRecDepth 100000 in
set_option maxHeartbeats 8000000 in
theorem LAlike_any (B B2 b d : Nat) (G : Nat → Prop) (v : Value) (L : List Or) (w : World) (hP : Hid (PairAt B B2 b d G v L w)) :
    Calls Try.prog 12 #[.pointer (some ⟨b, 0, none⟩), .pointer (some ⟨d, 0, none⟩)] w fun e w' => e = .returned (.bool true) ∧ Below w.heap.size w w' := by
  have hL := hP.out.k.lok.room
  have hfit := Lib.hid hP.out.fit
  obtain ⟨A, cap, ev, -, y1, y2, -, -⟩ := hP.out.r.own.slice
  obtain ⟨nl, en⟩ : ∃ x, L.length = x := ⟨_, rfl⟩
  rw [en] at ev hL y1
  have hcell : Hid (∀ W, Below w.heap.size w W → W.cell? ⟨d, 0, none⟩ = some (.slice A nl cap) ∧ HV fO W A nl L) := Lib.hid (fun W h => by
    have h1 := hP.out.r.below h
    obtain ⟨A', cap', ev', hv', -, -, -, -⟩ := h1.own.slice
    have e2 := ev'.symm.trans ev
    injection e2 with e3 e4 e5
    refine ⟨by rw [h1.cell.1, ev], ?_⟩
    rw [← e3, ← en]; exact hv')
  have hL2 : L.length ≤ 250 := by omega
  replace en := Lib.hid en
  replace ev := Lib.hid ev
  go_enter Try.func12, Try.ntmps12
  go_wp2_with fail
  go_loopw [5] (fun sv wr => ∃ (s : Nat), sv = .int .i64 s ∧ s ≤ 4 ∧ Hid (Below w.heap.size w wr)) (fun sv _ => (4 - intOf sv).toNat)
  case atStart => exact ⟨0, rfl, by omega, Lib.hid (Below.refl _ _)⟩
  case round =>
    obtain ⟨s, rfl, hs, hB⟩ := hrel
    by_cases hs4 : s < 4
    · have f1 : decide ((s : Int) < 4) = true := decide_eq_true (by omega)
      have f2 : (s : Int) < 4 := by omega
      have hP1 := Lib.hid (hP.out.below hB.out)
      have HB := BBest_any B b G L (s : Int) wr (Lib.hid hP1.out.k)
      obtain ⟨⟨⟨p, n, c⟩, ok⟩, eb⟩ : ∃ q, bestO L (s : Int) = q := ⟨_, rfl⟩
      rw [eb] at HB
      simp only [Lv.val, Lv.cells] at HB
      have dk : (ok != ok) = false := by simp
      replace HB := Lib.hid HB
      replace eb := Lib.hid eb
      go_wp2_with fail
      refine HB.out.mono ?_
      rintro e w3 ⟨rfl, b3⟩
      obtain ⟨ga, ega⟩ : ∃ x, w3.heap.size = x := ⟨_, rfl⟩
      obtain ⟨w4, ew4⟩ : ∃ X, w3.alloc (.cells #[.int .i64 p, .int .i64 n, .int .i64 c] 47) = X := ⟨_, rfl⟩
      have b34 : Below w3.heap.size w3 w4 := by rw [← ew4]; exact (Below.refl _ _).alloc (Nat.le_refl _) _
      have hB4 : Hid (Below w.heap.size w w4) := Lib.hid (hB.out.trans ((b3.trans (b34.mono b3.size)).mono hB.out.size))
      have hga : Hid (w4.heap[ga]? = some (.cells #[.int .i64 p, .int .i64 n, .int .i64 c] 47 (0, 0))) := Lib.hid (by rw [← ew4, ← ega]; exact heap_alloc_new w3 _)
      have HR := RBest_any B2 d v L (s : Int) w4 (Lib.hid (hP.out.r.below hB4.out)) (by omega) hfit
      rw [eb.out] at HR
      simp only [Lv.val, Lv.cells] at HR
      replace HR := Lib.hid HR
      replace b3 := Lib.hid b3
      replace b34 := Lib.hid b34
      clear HB
      go_wp2_with fail
      refine HR.out.mono ?_
      rintro e w5 ⟨rfl, b5⟩
      obtain ⟨gb, egb⟩ : ∃ x, w5.heap.size = x := ⟨_, rfl⟩
      obtain ⟨w6, ew6⟩ : ∃ X, w5.alloc (.cells #[.int .i64 p, .int .i64 n, .int .i64 c] 72) = X := ⟨_, rfl⟩
      have b56 : Below w5.heap.size w5 w6 := by rw [← ew6]; exact (Below.refl _ _).alloc (Nat.le_refl _) _
      have b46 := b5.trans (b56.mono b5.size)
      have hgb : w6.heap[gb]? = some (.cells #[.int .i64 p, .int .i64 n, .int .i64 c] 72 (0, 0)) := by rw [← ew6, ← egb]; exact heap_alloc_new w5 _
      have hga6 := (b46.block ga (Array.getElem?_eq_some_iff.1 hga.out).1).trans hga.out
      have hB6 : Hid (Below w.heap.size w w6) := Lib.hid (hB4.out.trans (b46.mono hB4.out.size))
      obtain ⟨⟨a0, a1, a2⟩, -⟩ := row3 hga6
      obtain ⟨gc, egc⟩ : ∃ x, w6.heap.size = x := ⟨_, rfl⟩
      obtain ⟨w7, ew7⟩ : ∃ X, w6.alloc (.cells #[.int .i64 p, .int .i64 n, .int .i64 c] 47) = X := ⟨_, rfl⟩
      have b67 : Below w6.heap.size w6 w7 := by rw [← ew7]; exact (Below.refl _ _).alloc (Nat.le_refl _) _
      have hgc : w7.heap[gc]? = some (.cells #[.int .i64 p, .int .i64 n, .int .i64 c] 47 (0, 0)) := by rw [← ew7, ← egc]; exact heap_alloc_new w6 _
      have hgb7 := (b67.block gb (Array.getElem?_eq_some_iff.1 hgb).1).trans hgb
      obtain ⟨⟨d0, d1, d2⟩, -⟩ := row3 hgb7
      obtain ⟨ge, ege⟩ : ∃ x, w7.heap.size = x := ⟨_, rfl⟩
      obtain ⟨w8, ew8⟩ : ∃ X, w7.alloc (.cells #[.int .i64 p, .int .i64 n, .int .i64 c] 72) = X := ⟨_, rfl⟩
      have b78 : Below w7.heap.size w7 w8 := by rw [← ew8]; exact (Below.refl _ _).alloc (Nat.le_refl _) _
      have hge : w8.heap[ge]? = some (.cells #[.int .i64 p, .int .i64 n, .int .i64 c] 72 (0, 0)) := by rw [← ew8, ← ege]; exact heap_alloc_new w7 _
      have hgc8 := (b78.block gc (Array.getElem?_eq_some_iff.1 hgc).1).trans hgc
      have H1 := Lib.hid (LLevels_any (some ⟨gc, 0, none⟩) (some ⟨ge, 0, none⟩) 1 1 1 [⟨p, n, c⟩] w8 (by omega) (by omega) (by omega) (Lib.hid (hv_oneL (x := ⟨p, n, c⟩) hgc8)) (Lib.hid (hv_oneL (x := ⟨p, n, c⟩) hge)))
      have hB8 : Hid (Below w.heap.size w w8) := Lib.hid (hB6.out.trans ((b67.trans (b78.mono b67.size)).mono hB6.out.size))
      replace hgb := Lib.hid hgb
      replace hga6 := Lib.hid hga6
      replace hgb7 := Lib.hid hgb7
      replace hgc := Lib.hid hgc
      replace hge := Lib.hid hge
      replace hgc8 := Lib.hid hgc8
      replace b5 := Lib.hid b5
      replace b46 := Lib.hid b46
      replace b56 := Lib.hid b56
      replace b67 := Lib.hid b67
      replace b78 := Lib.hid b78
      clear HR
      go_wp2_with fail
      refine H1.out.mono ?_
      rintro e w9 ⟨rfl, q, e9⟩
      have hB9 : Hid (Below w.heap.size w w9) := Lib.hid (by rw [e9]; exact below_drewN0 hB8.out _)
      have HL := BLadder_any B b G L (s : Int) w9 (Lib.hid (hP.out.k.below hB9.out))
      have hdl : (ladO L (s : Int)).length ≤ 250 := by have := lad_len' (L := L) (s : Int) L []; have h2 : ladO L (s : Int) = L.foldl (ladStep (s : Int)) [] := rfl; rw [h2]; simp at this; omega
      have HRl := fun (W : World) (h : Below w.heap.size w W) => RLadder_any B2 d v L (s : Int) W (Lib.hid (hP.out.r.below h)) (by omega) hfit
      obtain ⟨D, eD⟩ : ∃ D, ladO L (s : Int) = D := ⟨_, rfl⟩
      rw [eD] at HL HRl hdl
      obtain ⟨nd, end'⟩ : ∃ x, D.length = x := ⟨_, rfl⟩
      rw [end'] at hdl
      replace e9 := Lib.hid e9
      replace eD := Lib.hid eD
      replace HL := Lib.hid HL
      replace HRl := Lib.hid HRl
      clear a0 a1 a2 d0 d1 d2 H1
      go_wp2_with fail
      refine HL.out.mono ?_
      rintro e wa ⟨va, rfl, Oa, ba⟩
      obtain ⟨Aa, capa, rfl, hva, t1, t2, -, -⟩ := Oa.slice
      rw [end'] at t1 hva ⊢
      have hBa := Lib.hid (hB9.out.trans (ba.mono hB9.out.size))
      have HR2 := Lib.hid (HRl.out wa hBa.out)
      replace hva := Lib.hid hva
      clear HL HRl Oa ba
      go_wp2_with fail
      refine HR2.out.mono ?_
      rintro e wb ⟨vb, rfl, Ob, bb⟩
      obtain ⟨Ab, capb, rfl, hvb, t3, t4, -, -⟩ := Ob.slice
      rw [end'] at t3 hvb ⊢
      have hBb := Lib.hid (hBa.out.trans (bb.mono hBa.out.size))
      have H2 := Lib.hid (LLevels_any Aa Ab nd capa capb D wb (by omega) t1 t3 (Lib.hid (hva.out.below bb)) (Lib.hid hvb))
      replace hvb := Lib.hid hvb
      replace end' := Lib.hid end'
      clear HR2 Ob bb
      go_wp2_with fail
      refine H2.out.mono ?_
      rintro e wd ⟨rfl, q2, ed⟩
      have hBd : Hid (Below w.heap.size w wd) := Lib.hid (by rw [ed]; exact below_drewN0 hBb.out _)
      replace ed := Lib.hid ed
      have hPd := Lib.hid (hP.out.below hBd.out)
      clear H2
      go_wp2_with fail
      refine LAlike_at hPd (Lib.hid (fun _ _ d _ _ h => by cases d <;> exact h)) (Lib.hid ?_)
      intro u4 u10 u48 u49 u50 u51 u52 u53 u54 u55 u56 u57 u58 u59 u60 u61 u62 u63 u64 u65 u66 u67 u68 u69 u70 u71 u72 u73 u74 u75 u76 u77 u78 u79 u80 u81 u82 u83 u84 we hBe
      have hBf := Lib.hid (hBd.out.trans (hBe.out.mono hBd.out.size))
      go_wp2_with fail
      go_roundw
      case rel => exact ⟨s + 1, by go_num, by omega, hBf⟩
      case measure => simp [intOf]; omega
    · obtain rfl : s = 4 := by omega
      have f1 : decide ((4 : Int) < 4) = false := by decide
      have hBd : Hid (Below w.heap.size w wr.drew) := Lib.hid ⟨hB.out.os, hB.out.tape, hB.out.output, hB.out.size, hB.out.block⟩
      have z0 : (fun W : World => W.cell? ⟨d, 0, none⟩ = some (.slice A nl cap)) wr.drew := (hcell.out wr.drew hBd.out).1
      simp only at z0
      have dn : ((nl : Int) == (nl : Int)) = true := by simp
      have HOr := Lib.hid (BOrders_any B b G L wr.drew (Lib.hid (hP.out.k.below hBd.out)))
      go_upto_region 13 with (fail)
      refine wp_region_held_drew (S := (fun W : World => W.cell? ⟨d, 0, none⟩ = some (.slice A nl cap))) (by kernel_rfl) z0 (fun hHeld => ?_)
      refine wpAnyH_take (i := 0) (v := .pointer (some ⟨b, 0, none⟩)) rfl (by kernel_rfl) (by kernel_rfl) (by kernel_rfl) (fun _ _ _ h => h) (Or.inl ⟨by kernel_rfl, fun W hSw => ?_⟩) (by assumption) ?_
      · (try dsimp only at hSw)
        go_simp
      (try simp only [Act.put, List.setIfInBounds_toArray, List.set_cons_zero, List.set_cons_succ])
      refine wpAnyH_take (i := 2) (v := .pointer (some ⟨d, 0, none⟩)) rfl (by kernel_rfl) (by kernel_rfl) (by kernel_rfl) (fun _ _ _ h => h) (Or.inl ⟨by kernel_rfl, fun W hSw => ?_⟩) (by assumption) ?_
      · (try dsimp only at hSw)
        go_simp
      (try simp only [Act.put, List.setIfInBounds_toArray, List.set_cons_zero, List.set_cons_succ])
      refine wpAnyH_take (i := 3) (v := .pointer (some ⟨d, 0, none⟩)) rfl (by kernel_rfl) (by kernel_rfl) (by kernel_rfl) (fun _ _ _ h => h) (Or.inl ⟨by kernel_rfl, fun W hSw => ?_⟩) (by assumption) ?_
      · (try dsimp only at hSw)
        go_simp
      (try simp only [Act.put, List.setIfInBounds_toArray, List.set_cons_zero, List.set_cons_succ])
      refine wpAnyH_take (i := 4) (v := .pointer (some ⟨d, 0, none⟩)) rfl (by kernel_rfl) (by kernel_rfl) (by kernel_rfl) (fun _ _ _ h => h) (Or.inl ⟨by kernel_rfl, fun W hSw => ?_⟩) (by assumption) ?_
      · (try dsimp only at hSw)
        go_simp
      (try simp only [Act.put, List.setIfInBounds_toArray, List.set_cons_zero, List.set_cons_succ])
      refine wpAnyH_take (i := 5) (v := .slice A nl cap) rfl (by kernel_rfl) (by kernel_rfl) (by kernel_rfl) (fun _ _ _ h => h) (Or.inl ⟨by kernel_rfl, fun W hSw => ?_⟩) (by assumption) ?_
      · (try dsimp only at hSw)
        go_simp
      (try simp only [Act.put, List.setIfInBounds_toArray, List.set_cons_zero, List.set_cons_succ])
      refine wpAnyH_ready (rs := [1]) (by kernel_rfl) (by simp) ?_
      refine AllReadyH.cons rfl (fun K hK => ?_) AllReadyH.nil
      go_simp
      refine HOr.out.mono ?_
      rintro e w5 ⟨v5, rfl, O5, b5⟩
      obtain ⟨A5, cap5, rfl, hv5, t1, t2, -, -⟩ := O5.slice
      rw [en.out] at t1 hv5 ⊢
      have hB5 := Lib.hid (hBd.out.trans (b5.mono hBd.out.size))
      have z5 := (hcell.out w5 hB5.out).1
      have HO := Lib.hid (LOrders_any A5 A nl cap5 cap L w5 (by omega) t1 y1 (Lib.hid hv5) (Lib.hid (hcell.out w5 hB5.out).2))
      replace hv5 := Lib.hid hv5
      clear O5 b5
      refine hK.out _ _ z5 (fun hHeld => ?_)
      clear hK K
      (try simp only [Act.put, List.setIfInBounds_toArray, List.set_cons_zero, List.set_cons_succ])
      refine wpAnyH_ready (rs := [6]) (by kernel_rfl) (by simp) ?_
      refine AllReadyH.cons rfl (fun K hK => ?_) AllReadyH.nil
      go_simp
      refine HO.out.mono ?_
      rintro e w6 ⟨rfl, b6⟩
      have hB6 := Lib.hid (hB5.out.trans (b6.mono hB5.out.size))
      have z6 := (hcell.out w6 hB6.out).1
      have HC := BkCount_any B b G L w6 (Lib.hid (hP.out.k.below hB6.out))
      rw [en.out] at HC
      replace HC := Lib.hid HC
      clear b6
      refine hK.out _ _ z6 (fun hHeld => ?_)
      clear hK K
      (try simp only [Act.put, List.setIfInBounds_toArray, List.set_cons_zero, List.set_cons_succ])
      refine wpAnyH_take (i := 7) (v := .bool true) rfl (by kernel_rfl) (by kernel_rfl) (by kernel_rfl) (fun _ _ _ h => h) (Or.inl ⟨by kernel_rfl, fun W hSw => ?_⟩) (by assumption) ?_
      · (try dsimp only at hSw)
        go_simp
      (try simp only [Act.put, List.setIfInBounds_toArray, List.set_cons_zero, List.set_cons_succ])
      refine wpAnyH_take (i := 8) (v := .pointer (some ⟨b, 0, none⟩)) rfl (by kernel_rfl) (by kernel_rfl) (by kernel_rfl) (fun _ _ _ h => h) (Or.inl ⟨by kernel_rfl, fun W hSw => ?_⟩) (by assumption) ?_
      · (try dsimp only at hSw)
        go_simp
      (try simp only [Act.put, List.setIfInBounds_toArray, List.set_cons_zero, List.set_cons_succ])
      refine wpAnyH_take (i := 10) (v := .pointer (some ⟨d, 0, none⟩)) rfl (by kernel_rfl) (by kernel_rfl) (by kernel_rfl) (fun _ _ _ h => h) (Or.inl ⟨by kernel_rfl, fun W hSw => ?_⟩) (by assumption) ?_
      · (try dsimp only at hSw)
        go_simp
      (try simp only [Act.put, List.setIfInBounds_toArray, List.set_cons_zero, List.set_cons_succ])
      refine wpAnyH_take (i := 11) (v := .pointer (some ⟨d, 0, none⟩)) rfl (by kernel_rfl) (by kernel_rfl) (by kernel_rfl) (fun _ _ _ h => h) (Or.inl ⟨by kernel_rfl, fun W hSw => ?_⟩) (by assumption) ?_
      · (try dsimp only at hSw)
        go_simp
      (try simp only [Act.put, List.setIfInBounds_toArray, List.set_cons_zero, List.set_cons_succ])
      refine wpAnyH_take (i := 12) (v := .pointer (some ⟨d, 0, none⟩)) rfl (by kernel_rfl) (by kernel_rfl) (by kernel_rfl) (fun _ _ _ h => h) (Or.inl ⟨by kernel_rfl, fun W hSw => ?_⟩) (by assumption) ?_
      · (try dsimp only at hSw)
        go_simp
      (try simp only [Act.put, List.setIfInBounds_toArray, List.set_cons_zero, List.set_cons_succ])
      refine wpAnyH_take (i := 13) (v := .slice A nl cap) rfl (by kernel_rfl) (by kernel_rfl) (by kernel_rfl) (fun _ _ _ h => h) (Or.inl ⟨by kernel_rfl, fun W hSw => ?_⟩) (by assumption) ?_
      · (try dsimp only at hSw)
        go_simp
      (try simp only [Act.put, List.setIfInBounds_toArray, List.set_cons_zero, List.set_cons_succ])
      refine wpAnyH_take (i := 14) (v := .int .i64 (nl : Int)) rfl (by kernel_rfl) (by kernel_rfl) (by kernel_rfl) (fun _ _ _ h => h) (Or.inl ⟨by kernel_rfl, fun W hSw => ?_⟩) (by assumption) ?_
      · (try dsimp only at hSw)
        go_simp
      (try simp only [Act.put, List.setIfInBounds_toArray, List.set_cons_zero, List.set_cons_succ])
      refine wpAnyH_ready (rs := [9]) (by kernel_rfl) (by simp) ?_
      refine AllReadyH.cons rfl (fun K hK => ?_) AllReadyH.nil
      go_simp
      refine HC.out.mono ?_
      rintro e w7 ⟨rfl, rfl⟩
      refine hK.out _ _ z6 (fun hHeld => ?_)
      clear hK K
      (try simp only [Act.put, List.setIfInBounds_toArray, List.set_cons_zero, List.set_cons_succ])
      refine wpAnyH_take (i := 15) (v := .bool true) rfl (by kernel_rfl) (by kernel_rfl) (by kernel_rfl) (fun _ _ _ h => h) (Or.inl ⟨by kernel_rfl, fun W hSw => ?_⟩) (by assumption) ?_
      · (try dsimp only at hSw)
        go_simp
      (try simp only [List.getElem_toArray, List.getElem_cons_succ, List.getElem_cons_zero, Act.put, List.setIfInBounds_toArray, List.set_cons_zero, List.set_cons_succ])
      refine wpAnyH_take (i := 16) (v := .bool true) rfl (by kernel_rfl) (by kernel_rfl) (by kernel_rfl) (fun _ _ _ h => h) (Or.inl ⟨by kernel_rfl, fun W hSw => ?_⟩) (by assumption) ?_
      · (try dsimp only at hSw)
        go_simp
      (try simp only [List.getElem_toArray, List.getElem_cons_succ, List.getElem_cons_zero, Act.put, List.setIfInBounds_toArray, List.set_cons_zero, List.set_cons_succ])
      refine wpAnyH_take (i := 17) (v := .bool true) rfl (by kernel_rfl) (by kernel_rfl) (by kernel_rfl) (fun _ _ _ h => h) (Or.inl ⟨by kernel_rfl, fun W hSw => ?_⟩) (by assumption) ?_
      · (try dsimp only at hSw)
        go_simp
      (try simp only [List.getElem_toArray, List.getElem_cons_succ, List.getElem_cons_zero, Act.put, List.setIfInBounds_toArray, List.set_cons_zero, List.set_cons_succ])
      refine wpAnyH_done (by kernel_rfl) ?_ _
      go_wp2_with fail
      go_ret
      exact ⟨rfl, hB6.out⟩
end Go.Proofs.Ytlknlicokacoiaa
