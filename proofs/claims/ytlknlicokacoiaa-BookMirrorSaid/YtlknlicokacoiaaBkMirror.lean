/-
  The walk of BookMirror.
-/
import Derived.Test.YtlknlicokacoiaaBkMirP
import Derived.Test.YtlknlicokacoiaaOpenAsk9
import Derived.Test.YtlknlicokacoiaaBkKnown
import Derived.Deep.RegionHeld3
import Derived.Deep.CutBlock
import Derived.Deep.QuietTactic
import Derived.BigQuiet
namespace Go.Proofs.Ytlknlicokacoiaa
open Go.RowKit
set_option linter.unusedVariables false
set_option linter.unusedSimpArgs false
set_option linter.constructorNameAsVariable false

/-- Two books, each other's mirror, apart. -/
def TwoAt (B B2 a b : Nat) (w wy : World) : Prop := ∃ (Ga Gb : Nat → Prop) (L K : List Or), BK B a Ga L wy ∧ BK B2 b Gb K wy ∧ (∀ k, Ga k → ¬ Gb k) ∧ Mir L K ∧ Below B w wy
theorem TwoAt.below {B B2 a b : Nat} {w wy wz : World} (h : TwoAt B B2 a b w wy) (hb : Below wy.heap.size wy wz) : TwoAt B B2 a b w wz := by
  obtain ⟨Ga, Gb, L, K, h1, h2, h3, h4, h5⟩ := h
  exact ⟨Ga, Gb, L, K, h1.below hb, h2.below hb, h3, h4, h5.trans (hb.mono h1.size)⟩
def loopsOf : Code → List Code
  | .loop c => c :: loopsOf c
  | .seq a b => loopsOf a ++ loopsOf b
  | .block _ c => loopsOf c
  | .scope c => loopsOf c
  | .cond _ a b => loopsOf a ++ loopsOf b
  | _ => []
noncomputable def bdLev : Code := ((loopsOf (Try.f7.body.getD .skip))[2]?).getD .skip
set_option maxRecDepth 100000 in
set_option maxHeartbeats 8000000 in
theorem BMir_lev {Q0 : Exit → Act → World → Prop} {c0 c1 c2 c5 c6 c7 c8 c9 c14 c15 c16 c17 c18 c19 c20 c21 c22 c23 c24 c25 c26 c27 c28 c29 c30 c31 c32 c33 c34 c35 c36 c37 c38 c39 c40 c41 c42 c43 c44 c45 c46 c47 c48 c49 c50 c51 c52 c53 c54 c55 c56 c57 c58 c59 c60 c61 c62 c63 c64 c65 c66 c67 c68 c69 c70 c71 c72 c73 c74 c75 c76 c77 c78 c79 c80 c81 c82 c83 c84 c85 c86 c87 c88 c89 c90 c91 c92 c93 c94 c95 c96 c97 c98 c99 c100 c101 c102 c103 c104 c105 c106 c107 c108 c109 c110 c111 c112 c113 c114 c115 c116 c117 c118 c119 c120 c121 c122 c123 c124 c125 c126 c127 c128 c129 c130 c131 c132 c133 c134 c135 c136 c137 c138 c139 c140 c141 c142 c143 c144 c145 c146 c147 c148 c149 c150 c151 c152 c153 c154 c155 c156 c157 c158 c159 c160 c161 c162 c163 c164 c165 c166 c167 c168 c169 c170 c171 c172 c173 c174 c175 c176 c177 c178 c179 c180 c181 c182 c183 c184 c185 c186 c187 c188 c189 c190 c191 c192 c193 c194 c195 c196 c197 c198 c199 c200 c201 c202 c203 c204 c205 c206 c207 c208 c209 c210 c211 c212 c213 c214 c215 c216 c217 c218 c219 c220 : Value} {B B2 a b s nl cap3 cap4 : Nat} {Ga Gb : Nat → Prop} {L K : List Or} {D : List Lv} {A3 A4 : Option Addr} {w3 : World} (hKa : Hid (BK B a Ga L w3)) (hKb : Hid (BK B2 b Gb K w3)) (hM : Hid (Mir L K)) (eD : Hid (ladO L (s : Int) = D)) (enl : Hid (D.length = nl)) (hv3 : Hid (HV fL w3 A3 nl D)) (hv4 : Hid (HV fL w3 A4 nl (D.map ml))) (hs1 : 1 ≤ s) (hs2 : s ≤ 2) (y1 : nl ≤ cap3) (y2 : cap3 ≤ 9223372036854775807) (y3 : nl ≤ cap4) (y4 : cap4 ≤ 9223372036854775807) (hnl : nl ≤ 250)
    (hQp : Hid (∀ c (a : Act) d v w, Q0 (.panic c) (a.put d v) w → Q0 (.panic c) a w)) (hX : Hid (∀ (u2 u14 u15 u16 u109 u110 u111 u112 u113 u114 u115 u116 u117 u118 u119 u120 u121 u122 u123 u124 u125 u126 u127 u128 u129 u130 u131 u132 u133 u134 u135 u136 u137 u138 u139 u140 u141 u142 u143 u144 u145 u146 u147 u148 u149 u150 u151 u152 u153 u154 u155 u156 u157 u158 u159 u160 u161 u162 u163 u164 u165 u166 u167 u168 u169 u170 u171 u172 u173 u174 u175 u176 u177 u178 u179 u180 u181 u182 u183 u184 u185 u186 u187 u188 u189 u190 u191 u192 u193 u194 u195 u196 u197 u198 u199 u200 u201 u202 u203 u204 u205 u206 u207 u208 u209 u210 u211 u212 u213 u214 u215 u216 u217 u218 u219 : Value) (w4 : World), Hid (Below w3.heap.size w3 w4) → Q0 (.exit 4) ⟨List.toArray (c0 :: c1 :: u2 :: .pointer (some ⟨a, 0, none⟩) :: .pointer (some ⟨b, 0, none⟩) :: c5 :: c6 :: c7 :: c8 :: c9 :: .int .i64 (s : Int) :: .slice A3 nl cap3 :: .slice A4 nl cap4 :: .int .i64 (nl : Int) :: u14 :: u15 :: u16 :: c17 :: c18 :: c19 :: c20 :: c21 :: c22 :: c23 :: c24 :: c25 :: c26 :: c27 :: c28 :: c29 :: c30 :: c31 :: c32 :: c33 :: c34 :: c35 :: c36 :: c37 :: c38 :: c39 :: c40 :: c41 :: c42 :: c43 :: c44 :: c45 :: c46 :: c47 :: c48 :: c49 :: c50 :: c51 :: c52 :: c53 :: c54 :: c55 :: c56 :: c57 :: c58 :: c59 :: c60 :: c61 :: c62 :: c63 :: c64 :: c65 :: c66 :: c67 :: c68 :: c69 :: c70 :: c71 :: c72 :: c73 :: c74 :: c75 :: c76 :: c77 :: c78 :: c79 :: c80 :: c81 :: c82 :: c83 :: c84 :: c85 :: c86 :: c87 :: c88 :: c89 :: c90 :: c91 :: c92 :: c93 :: c94 :: c95 :: c96 :: c97 :: c98 :: c99 :: c100 :: c101 :: c102 :: c103 :: c104 :: c105 :: c106 :: c107 :: c108 :: u109 :: u110 :: u111 :: u112 :: u113 :: u114 :: u115 :: u116 :: u117 :: u118 :: u119 :: u120 :: u121 :: u122 :: u123 :: u124 :: u125 :: u126 :: u127 :: u128 :: u129 :: u130 :: u131 :: u132 :: u133 :: u134 :: u135 :: u136 :: u137 :: u138 :: u139 :: u140 :: u141 :: u142 :: u143 :: u144 :: u145 :: u146 :: u147 :: u148 :: u149 :: u150 :: u151 :: u152 :: u153 :: u154 :: u155 :: u156 :: u157 :: u158 :: u159 :: u160 :: u161 :: u162 :: u163 :: u164 :: u165 :: u166 :: u167 :: u168 :: u169 :: u170 :: u171 :: u172 :: u173 :: u174 :: u175 :: u176 :: u177 :: u178 :: u179 :: u180 :: u181 :: u182 :: u183 :: u184 :: u185 :: u186 :: u187 :: u188 :: u189 :: u190 :: u191 :: u192 :: u193 :: u194 :: u195 :: u196 :: u197 :: u198 :: u199 :: u200 :: u201 :: u202 :: u203 :: u204 :: u205 :: u206 :: u207 :: u208 :: u209 :: u210 :: u211 :: u212 :: u213 :: u214 :: u215 :: u216 :: u217 :: u218 :: u219 :: c220 :: []), []⟩ w4)) :
    Code.wp Try.prog (.loop bdLev) Q0 ⟨List.toArray (c0 :: c1 :: c2 :: .pointer (some ⟨a, 0, none⟩) :: .pointer (some ⟨b, 0, none⟩) :: c5 :: c6 :: c7 :: c8 :: c9 :: .int .i64 (s : Int) :: .slice A3 nl cap3 :: .slice A4 nl cap4 :: .int .i64 0 :: c14 :: c15 :: c16 :: c17 :: c18 :: c19 :: c20 :: c21 :: c22 :: c23 :: c24 :: c25 :: c26 :: c27 :: c28 :: c29 :: c30 :: c31 :: c32 :: c33 :: c34 :: c35 :: c36 :: c37 :: c38 :: c39 :: c40 :: c41 :: c42 :: c43 :: c44 :: c45 :: c46 :: c47 :: c48 :: c49 :: c50 :: c51 :: c52 :: c53 :: c54 :: c55 :: c56 :: c57 :: c58 :: c59 :: c60 :: c61 :: c62 :: c63 :: c64 :: c65 :: c66 :: c67 :: c68 :: c69 :: c70 :: c71 :: c72 :: c73 :: c74 :: c75 :: c76 :: c77 :: c78 :: c79 :: c80 :: c81 :: c82 :: c83 :: c84 :: c85 :: c86 :: c87 :: c88 :: c89 :: c90 :: c91 :: c92 :: c93 :: c94 :: c95 :: c96 :: c97 :: c98 :: c99 :: c100 :: c101 :: c102 :: c103 :: c104 :: c105 :: c106 :: c107 :: c108 :: c109 :: c110 :: c111 :: c112 :: c113 :: c114 :: c115 :: c116 :: c117 :: c118 :: c119 :: c120 :: c121 :: c122 :: c123 :: c124 :: c125 :: c126 :: c127 :: c128 :: c129 :: c130 :: c131 :: c132 :: c133 :: c134 :: c135 :: c136 :: c137 :: c138 :: c139 :: c140 :: c141 :: c142 :: c143 :: c144 :: c145 :: c146 :: c147 :: c148 :: c149 :: c150 :: c151 :: c152 :: c153 :: c154 :: c155 :: c156 :: c157 :: c158 :: c159 :: c160 :: c161 :: c162 :: c163 :: c164 :: c165 :: c166 :: c167 :: c168 :: c169 :: c170 :: c171 :: c172 :: c173 :: c174 :: c175 :: c176 :: c177 :: c178 :: c179 :: c180 :: c181 :: c182 :: c183 :: c184 :: c185 :: c186 :: c187 :: c188 :: c189 :: c190 :: c191 :: c192 :: c193 :: c194 :: c195 :: c196 :: c197 :: c198 :: c199 :: c200 :: c201 :: c202 :: c203 :: c204 :: c205 :: c206 :: c207 :: c208 :: c209 :: c210 :: c211 :: c212 :: c213 :: c214 :: c215 :: c216 :: c217 :: c218 :: c219 :: c220 :: []), []⟩ w3 := by
  conv => arg 2; arg 1; whnf
  go_loopw [13] (fun iv wr => ∃ (j : Nat), iv = .int .i64 j ∧ j ≤ nl ∧ Hid (Below w3.heap.size w3 wr)) (fun iv _ => (nl - intOf iv).toNat)
  case atStart => exact ⟨0, rfl, by omega, Lib.hid (Below.refl _ _)⟩
  case round =>
    rename World => w4
    obtain ⟨j, rfl, hj, hB4⟩ := hrel
    by_cases hlt : j < nl
    · have g1 : decide ((j : Int) < (nl : Int)) = true := decide_eq_true (by omega)
      have g2 : (j : Int) < (nl : Int) := by omega
      have g3 : decide (j < nl) = true := decide_eq_true hlt
      obtain ⟨y, hy⟩ : ∃ y, D[j]? = some y := ⟨_, List.getElem?_eq_getElem (by rw [enl.out]; exact hlt)⟩
      have hyl := hM.out.lad_low hKa.out.lok (s := (s : Int)) (y := y) (by rw [eD.out]; exact List.mem_of_getElem? hy)
      have hBd : Hid (Below w3.heap.size w3 w4.drew) := Lib.hid ⟨hB4.out.os, hB4.out.tape, hB4.out.output, hB4.out.size, hB4.out.block⟩
      have hy2 : (D.map ml)[j]? = some (ml y) := by rw [List.getElem?_map, hy]; rfl
      obtain ⟨yb, yo, rfl, u0, -, -⟩ := (hv3.out.below hBd.out).atL hy
      obtain ⟨zb, zo, rfl, v0, -, -⟩ := (hv4.out.below hBd.out).atL hy2
      obtain ⟨yp, yn, yc⟩ := y
      simp only [ml] at u0 v0 hyl
      obtain ⟨hl1, hl2⟩ := hyl
      replace hy := Lib.hid hy
      replace hy2 := Lib.hid hy2
      have hKa4 := Lib.hid (hKa.out.below hBd.out)
      have HAt := BAt_any B a Ga L (s : Int) yp w4.drew hKa4
      have HAt2 := fun (W : World) (h : Below w4.drew.heap.size w4.drew W) => BAt_any B2 b Gb K (3 - (s : Int)) (-yp) W (Lib.hid (hKb.out.below (hBd.out.trans (h.mono hBd.out.size))))
      rw [hM.out.at' (s := (s : Int)) (by omega)] at HAt2
      obtain ⟨E, eE⟩ : ∃ E, atO L (s : Int) yp = E := ⟨_, rfl⟩
      rw [eE] at HAt HAt2
      obtain ⟨nk, enk⟩ : ∃ k, E.length = k := ⟨_, rfl⟩
      have hnk : nk ≤ 250 := by rw [← enk, ← eE]; exact at_len hKa.out.lok _ _
      have z0 : (fun W : World => W.cell? ⟨yb, yo + j * 3, none⟩ = some (.int .i64 yp) ∧ W.cell? ⟨zb, zo + j * 3, none⟩ = some (.int .i64 (-yp))) w4.drew := ⟨u0, v0⟩
      simp only at z0
      have LL : Hid (∀ W : World, Below w4.drew.heap.size w4.drew W → (fun W : World => W.cell? ⟨yb, yo + j * 3, none⟩ = some (.int .i64 yp) ∧ W.cell? ⟨zb, zo + j * 3, none⟩ = some (.int .i64 (-yp))) W) := Lib.hid (fun W h => by
        obtain ⟨b1, o1, e1, q1, -, -⟩ := (hv3.out.below (hBd.out.trans (h.mono hBd.out.size))).atL hy.out
        obtain ⟨b2, o2, e2, q2, -, -⟩ := (hv4.out.below (hBd.out.trans (h.mono hBd.out.size))).atL hy2.out
        injection e1 with e1
        injection e1 with e1 e1'
        subst e1; subst e1'
        injection e2 with e2
        injection e2 with e2 e2'
        subst e2; subst e2'
        exact ⟨q1, q2⟩)
      have ws : IntKind.i64.wrap (3 - (s : Int)) = 3 - (s : Int) := IntWalk.i64_in _ (by omega)
      replace HAt := Lib.hid HAt
      replace HAt2 := Lib.hid HAt2
      replace eE := Lib.hid eE
      clear u0 v0
      go_upto_region 26 with (fail)
      refine wp_region_held_drew (S := (fun W : World => W.cell? ⟨yb, yo + j * 3, none⟩ = some (.int .i64 yp) ∧ W.cell? ⟨zb, zo + j * 3, none⟩ = some (.int .i64 (-yp)))) (by kernel_rfl) z0 (fun hHeld => ?_)
      refine wpAnyH_take (i := 0) (v := .pointer (some ⟨a, 0, none⟩)) rfl (by kernel_rfl) (by kernel_rfl) (by kernel_rfl) (fun _ _ _ h => hQp.out _ _ _ _ _ h) (Or.inl ⟨by kernel_rfl, fun W hSw => ?_⟩) (by assumption) ?_
      · (try dsimp only at hSw)
        go_simp
      (try simp only [Act.put, List.setIfInBounds_toArray, List.set_cons_zero, List.set_cons_succ])
      refine wpAnyH_take (i := 1) (v := .int .i64 (s : Int)) rfl (by kernel_rfl) (by kernel_rfl) (by kernel_rfl) (fun _ _ _ h => hQp.out _ _ _ _ _ h) (Or.inl ⟨by kernel_rfl, fun W hSw => ?_⟩) (by assumption) ?_
      · (try dsimp only at hSw)
        go_simp
      (try simp only [Act.put, List.setIfInBounds_toArray, List.set_cons_zero, List.set_cons_succ])
      refine wpAnyH_take (i := 2) (v := .slice (some ⟨yb, yo, none⟩) nl cap3) rfl (by kernel_rfl) (by kernel_rfl) (by kernel_rfl) (fun _ _ _ h => hQp.out _ _ _ _ _ h) (Or.inl ⟨by kernel_rfl, fun W hSw => ?_⟩) (by assumption) ?_
      · (try dsimp only at hSw)
        go_simp
      (try simp only [Act.put, List.setIfInBounds_toArray, List.set_cons_zero, List.set_cons_succ])
      refine wpAnyH_take (i := 3) (v := .int .i64 (j : Int)) rfl (by kernel_rfl) (by kernel_rfl) (by kernel_rfl) (fun _ _ _ h => hQp.out _ _ _ _ _ h) (Or.inl ⟨by kernel_rfl, fun W hSw => ?_⟩) (by assumption) ?_
      · (try dsimp only at hSw)
        go_simp
      (try simp only [Act.put, List.setIfInBounds_toArray, List.set_cons_zero, List.set_cons_succ])
      refine wpAnyH_take (i := 4) (v := .pointer (some ⟨yb, yo + j * 3, none⟩)) rfl (by kernel_rfl) (by kernel_rfl) (by kernel_rfl) (fun _ _ _ h => hQp.out _ _ _ _ _ h) (Or.inl ⟨by kernel_rfl, fun W hSw => ?_⟩) (by assumption) ?_
      · (try dsimp only at hSw)
        go_simp
      (try simp only [Act.put, List.setIfInBounds_toArray, List.set_cons_zero, List.set_cons_succ])
      refine wpAnyH_take (i := 5) (v := .pointer (some ⟨yb, yo + j * 3, none⟩)) rfl (by kernel_rfl) (by kernel_rfl) (by kernel_rfl) (fun _ _ _ h => hQp.out _ _ _ _ _ h) (Or.inl ⟨by kernel_rfl, fun W hSw => ?_⟩) (by assumption) ?_
      · (try dsimp only at hSw)
        go_simp
      (try simp only [Act.put, List.setIfInBounds_toArray, List.set_cons_zero, List.set_cons_succ])
      refine wpAnyH_take (i := 6) (v := .int .i64 yp) rfl (by kernel_rfl) (by kernel_rfl) (by kernel_rfl) (fun _ _ _ h => hQp.out _ _ _ _ _ h) (Or.inl ⟨by kernel_rfl, fun W hSw => ?_⟩) (by assumption) ?_
      · (try dsimp only at hSw)
        go_simp
      (try simp only [Act.put, List.setIfInBounds_toArray, List.set_cons_zero, List.set_cons_succ])
      refine wpAnyH_take (i := 8) (v := .pointer (some ⟨b, 0, none⟩)) rfl (by kernel_rfl) (by kernel_rfl) (by kernel_rfl) (fun _ _ _ h => hQp.out _ _ _ _ _ h) (Or.inl ⟨by kernel_rfl, fun W hSw => ?_⟩) (by assumption) ?_
      · (try dsimp only at hSw)
        go_simp
      (try simp only [Act.put, List.setIfInBounds_toArray, List.set_cons_zero, List.set_cons_succ])
      refine wpAnyH_take (i := 9) (v := .int .i64 (s : Int)) rfl (by kernel_rfl) (by kernel_rfl) (by kernel_rfl) (fun _ _ _ h => hQp.out _ _ _ _ _ h) (Or.inl ⟨by kernel_rfl, fun W hSw => ?_⟩) (by assumption) ?_
      · (try dsimp only at hSw)
        go_simp
      (try simp only [Act.put, List.setIfInBounds_toArray, List.set_cons_zero, List.set_cons_succ])
      refine wpAnyH_take (i := 10) (v := .int .i64 (3 - (s : Int))) rfl (by kernel_rfl) (by kernel_rfl) (by kernel_rfl) (fun _ _ _ h => hQp.out _ _ _ _ _ h) (Or.inl ⟨by kernel_rfl, fun W hSw => ?_⟩) (by assumption) ?_
      · (try dsimp only at hSw)
        go_simp
      (try simp only [Act.put, List.setIfInBounds_toArray, List.set_cons_zero, List.set_cons_succ])
      refine wpAnyH_take (i := 11) (v := .slice (some ⟨zb, zo, none⟩) nl cap4) rfl (by kernel_rfl) (by kernel_rfl) (by kernel_rfl) (fun _ _ _ h => hQp.out _ _ _ _ _ h) (Or.inl ⟨by kernel_rfl, fun W hSw => ?_⟩) (by assumption) ?_
      · (try dsimp only at hSw)
        go_simp
      (try simp only [Act.put, List.setIfInBounds_toArray, List.set_cons_zero, List.set_cons_succ])
      refine wpAnyH_take (i := 12) (v := .int .i64 (j : Int)) rfl (by kernel_rfl) (by kernel_rfl) (by kernel_rfl) (fun _ _ _ h => hQp.out _ _ _ _ _ h) (Or.inl ⟨by kernel_rfl, fun W hSw => ?_⟩) (by assumption) ?_
      · (try dsimp only at hSw)
        go_simp
      (try simp only [Act.put, List.setIfInBounds_toArray, List.set_cons_zero, List.set_cons_succ])
      refine wpAnyH_take (i := 13) (v := .pointer (some ⟨zb, zo + j * 3, none⟩)) rfl (by kernel_rfl) (by kernel_rfl) (by kernel_rfl) (fun _ _ _ h => hQp.out _ _ _ _ _ h) (Or.inl ⟨by kernel_rfl, fun W hSw => ?_⟩) (by assumption) ?_
      · (try dsimp only at hSw)
        go_simp
      (try simp only [Act.put, List.setIfInBounds_toArray, List.set_cons_zero, List.set_cons_succ])
      refine wpAnyH_take (i := 14) (v := .pointer (some ⟨zb, zo + j * 3, none⟩)) rfl (by kernel_rfl) (by kernel_rfl) (by kernel_rfl) (fun _ _ _ h => hQp.out _ _ _ _ _ h) (Or.inl ⟨by kernel_rfl, fun W hSw => ?_⟩) (by assumption) ?_
      · (try dsimp only at hSw)
        go_simp
      (try simp only [Act.put, List.setIfInBounds_toArray, List.set_cons_zero, List.set_cons_succ])
      refine wpAnyH_take (i := 15) (v := .int .i64 (-yp)) rfl (by kernel_rfl) (by kernel_rfl) (by kernel_rfl) (fun _ _ _ h => hQp.out _ _ _ _ _ h) (Or.inl ⟨by kernel_rfl, fun W hSw => ?_⟩) (by assumption) ?_
      · (try dsimp only at hSw)
        go_simp
      (try simp only [Act.put, List.setIfInBounds_toArray, List.set_cons_zero, List.set_cons_succ])
      refine wpAnyH_ready (rs := [7]) (by kernel_rfl) (by simp) ?_
      refine AllReadyH.cons rfl (fun K hK => ?_) AllReadyH.nil
      go_simp
      refine HAt.out.mono ?_
      rintro e w5 ⟨v5, rfl, O5, b5⟩
      obtain ⟨A5, cap5, rfl, hv5, t1, t2, -, -⟩ := O5.slice
      rw [enk] at t1 hv5 ⊢
      have z5 := LL.out w5 b5
      have HAu := HAt2.out w5 b5
      have hB5 := Lib.hid (hBd.out.trans (b5.mono hBd.out.size))
      replace hv5 := Lib.hid hv5
      replace HAu := Lib.hid HAu
      have b5' := Lib.hid b5
      clear O5 b5
      refine hK.out _ _ z5 (fun hHeld => ?_)
      clear hK K
      (try simp only [Act.put, List.setIfInBounds_toArray, List.set_cons_zero, List.set_cons_succ])
      refine wpAnyH_ready (rs := [16]) (by kernel_rfl) (by simp) ?_
      refine AllReadyH.cons rfl (fun K hK => ?_) AllReadyH.nil
      go_simp
      refine HAu.out.mono ?_
      rintro e w6 ⟨v6, rfl, O6, b6⟩
      obtain ⟨A6, cap6, rfl, hv6, t3, t4, -, -⟩ := O6.slice
      rw [List.length_map, enk] at t3 hv6 ⊢
      have z6 := LL.out w6 (b5'.out.trans (b6.mono b5'.out.size))
      have hB6 := Lib.hid (hB5.out.trans (b6.mono hB5.out.size))
      have hv5' := Lib.hid (hv5.out.below b6)
      replace hv6 := Lib.hid hv6
      clear O6 b6
      refine hK.out _ _ z6 (fun hHeld => ?_)
      clear hK K
      (try simp only [Act.put, List.setIfInBounds_toArray, List.set_cons_zero, List.set_cons_succ])
      refine wpAnyH_take (i := 17) (v := .slice A5 nk cap5) rfl (by kernel_rfl) (by kernel_rfl) (by kernel_rfl) (fun _ _ _ h => hQp.out _ _ _ _ _ h) (Or.inl ⟨by kernel_rfl, fun W hSw => ?_⟩) (by assumption) ?_
      · (try dsimp only at hSw)
        go_simp
      (try simp only [Act.put, List.setIfInBounds_toArray, List.set_cons_zero, List.set_cons_succ])
      refine wpAnyH_take (i := 18) (v := .slice A6 nk cap6) rfl (by kernel_rfl) (by kernel_rfl) (by kernel_rfl) (fun _ _ _ h => hQp.out _ _ _ _ _ h) (Or.inl ⟨by kernel_rfl, fun W hSw => ?_⟩) (by assumption) ?_
      · (try dsimp only at hSw)
        go_simp
      (try simp only [Act.put, List.setIfInBounds_toArray, List.set_cons_zero, List.set_cons_succ])
      refine wpAnyH_done (by kernel_rfl) ?_ _
      clear z0 z5 z6 HAt HAu hHeld HAt2 LL hv5
      replace enk := Lib.hid enk
      obtain ⟨b1, o1, e1, q0, q1, q2⟩ := (hv3.out.below hB6.out).atL hy.out
      obtain ⟨b2, o2, e2, r0, r1, r2⟩ := (hv4.out.below hB6.out).atL hy2.out
      injection e1 with e1
      injection e1 with e1 e1'
      subst e1; subst e1'
      injection e2 with e2
      injection e2 with e2 e2'
      subst e2; subst e2'
      simp only [ml] at q0 q1 q2 r0 r1 r2
      have n0 : (yp != yp) = false := by simp
      have n1 : (yn != yn) = false := by simp
      have n2 : (yc != yc) = false := by simp
      have n3 : ((nk : Int) != (nk : Int)) = false := by simp
      have n4 : IntKind.i64.wrap (-(-yp)) = yp := by rw [Int.neg_neg]; exact IntWalk.i64_in _ (by omega)
      have n5 : IntKind.i64.wrap yp = yp := IntWalk.i64_in _ (by omega)
      have n6 : -(-yp) = yp := Int.neg_neg _
      go_upto_region 27 with (fail)
      go_quiet (fail)
      clear q0 q1 q2 r0 r1 r2 n0 n1 n2 n4 n5 n6
      obtain ⟨w7, ew7⟩ : ∃ W, w6.drewN nq = W := ⟨_, rfl⟩
      rw [ew7]
      have b67 : Below w6.heap.size w6 w7 := by rw [← ew7]; exact below_drewN0 (Below.refl _ _) _
      have hB7 := Lib.hid (hB6.out.trans (b67.mono hB6.out.size))
      have hv7 := Lib.hid (hv5'.out.below b67)
      have hu7 := Lib.hid (hv6.out.below b67)
      replace ew7 := Lib.hid ew7
      clear b67 hv5' hv6 hB6
      go_wp2_with fail
      go_loopw [16] (fun kv wr => ∃ (k q : Nat), kv = .int .i64 k ∧ k ≤ nk ∧ wr = w7.drewN q) (fun kv _ => (nk - intOf kv).toNat)
      case atStart => exact ⟨0, 0, rfl, by omega, rfl⟩
      case round =>
        obtain ⟨k, q, rfl, hk, rfl⟩ := hrel
        by_cases hkl : k < nk
        · have f3 : decide ((k : Int) < (nk : Int)) = true := decide_eq_true (by omega)
          have f4 : (k : Int) < (nk : Int) := by omega
          have f5 : decide (k < nk) = true := decide_eq_true hkl
          obtain ⟨x, hx⟩ : ∃ x, E[k]? = some x := ⟨_, List.getElem?_eq_getElem (by rw [enk.out]; exact hkl)⟩
          have hx2 : (E.map mo)[k]? = some (mo x) := by rw [List.getElem?_map, hx]; rfl
          obtain ⟨xb, xo, rfl, c0, -, -, c3, c4⟩ := hv7.out.atO hx
          obtain ⟨zb2, zo2, rfl, d0, -, -, d3, d4⟩ := hu7.out.atO hx2
          obtain ⟨xi, xs, xp, xn, xt⟩ := x
          simp only [mo] at c0 c3 c4 d0 d3 d4
          have m0 : (xi != xi) = false := by simp
          have m1 : (xn != xn) = false := by simp
          have m2 : (xt != xt) = false := by simp
          replace hx := Lib.hid hx
          replace hx2 := Lib.hid hx2
          go_wp2_with fail
          go_quiet (fail)
          go_wp2_with fail
          go_roundw
          case rel => exact ⟨k + 1, _, by go_num, by omega, rfl⟩
          case measure => simp [intOf]; omega
        · obtain rfl : k = nk := by omega
          have f3 : decide ((k : Int) < (k : Int)) = false := by simp
          have f5 : decide (k < k) = false := by simp
          have hB8 : Hid (Below w3.heap.size w3 (w7.drewN q)) := Lib.hid (below_drewN0 hB7.out _)
          go_wp2_with fail
          go_roundw
          case rel => exact ⟨j + 1, by go_num, by omega, hB8⟩
          case measure => simp [intOf]; omega
    · obtain rfl : j = nl := by omega
      have g1 : decide ((j : Int) < (j : Int)) = false := by simp
      have g3 : decide (j < j) = false := by simp
      go_wp2_with fail
      exact hX.out _ _ _ _ _ _ _ _ _ _ _ _ _ _ _ _ _ _ _ _ _ _ _ _ _ _ _ _ _ _ _ _ _ _ _ _ _ _ _ _ _ _ _ _ _ _ _ _ _ _ _ _ _ _ _ _ _ _ _ _ _ _ _ _ _ _ _ _ _ _ _ _ _ _ _ _ _ _ _ _ _ _ _ _ _ _ _ _ _ _ _ _ _ _ _ _ _ _ _ _ _ _ _ _ _ _ _ _ _ _ _ _ _ _ _ _ hB4
set_option maxRecDepth 100000 in
set_option maxHeartbeats 8000000 in
theorem BMirror_walk (A : Option Addr) (n cap : Nat) (L : List Ask) (w : World) (hA : Hid (HK w A n L)) (hAt : Hid (∀ ad, A = some ad → ad.block < w.heap.size)) (hO : Hid (OkK L)) (p1 : n ≤ cap) (p2 : cap ≤ 9223372036854775807) :
    Calls Try.prog 7 #[.slice A n cap] w fun e w' => e = .returned (.bool true) ∧ Below w.heap.size w w' := by
  have HN := Lib.hid (BNew_any w)
  obtain ⟨B, eB⟩ : ∃ B, w.heap.size = B := ⟨_, rfl⟩
  unfold NewBK at HN
  rw [eB] at HN hAt ⊢
  replace eB := Lib.hid eB
  go_enter Try.func7, Try.ntmps7
  go_wp2_with fail
  refine HN.out.mono ?_
  rintro e w1 ⟨a, Ga, rfl, a1, b1⟩
  have HN2 := BNew_any w1
  unfold NewBK at HN2
  obtain ⟨B2, eB2⟩ : ∃ B, w1.heap.size = B := ⟨_, rfl⟩
  rw [eB2] at HN2
  have hBB : Hid (B ≤ B2) := Lib.hid (by rw [← eB2]; exact a1.size)
  have hlow : Hid (∀ k, Ga k → k < B2) := Lib.hid (fun k hk => by rw [← eB2]; exact (a1.lt hk).2)
  replace eB2 := Lib.hid eB2
  replace HN2 := Lib.hid HN2
  replace a1 := Lib.hid a1
  replace b1 := Lib.hid b1
  go_wp2_with fail
  refine HN2.out.mono ?_
  rintro e w2 ⟨b, Gb, rfl, a2, b2⟩
  have hT : Hid (TwoAt B B2 a b w w2) := Lib.hid ⟨Ga, Gb, [], [], a1.out.below (by rw [eB2.out]; exact b2), a2, fun k hk e => by have h1 := hlow.out k hk; have h2 := (a2.lt e).1; omega, mir_nil, b1.out.trans (b2.mono hBB.out)⟩
  clear a1 a2 b1 b2 HN2
  go_wp2_with fail
  go_loopw [5] (fun iv wr => ∃ (i : Nat), iv = .int .i64 i ∧ i ≤ n ∧ i ≤ 50 ∧ Hid (TwoAt B B2 a b w wr)) (fun iv _ => (50 - intOf iv).toNat)
  case atStart => exact ⟨0, rfl, by omega, by omega, hT⟩
  case round =>
    clear hT
    rename World => wo
    obtain ⟨i, rfl, hi1, hi2, hT⟩ := hrel
    by_cases hc : i < n ∧ i < 50
    · obtain ⟨c1, c2⟩ := hc
      have d1 : decide ((i : Int) < (n : Int)) = true := decide_eq_true (by omega)
      have d1' : decide (i < n) = true := decide_eq_true c1
      have d2 : decide ((i : Int) < 50) = true := decide_eq_true (by omega)
      have d3 : (i : Int) < (n : Int) := by omega
      obtain ⟨Ga, Gb, L0, K0, kA, kB, kap, kM, kBl⟩ := hT.out
      have hKa := Lib.hid kA
      have hKb := Lib.hid kB
      have hap := Lib.hid kap
      have hM := Lib.hid kM
      have hBo := Lib.hid kBl
      clear kA kB kap kM kBl
      obtain ⟨x, hx⟩ : ∃ x, L[i]? = some x := ⟨_, List.getElem?_eq_getElem (by rw [hA.out.1]; exact c1)⟩
      obtain ⟨xk, xs, xi, xp, xn⟩ := hO.out x (List.mem_of_getElem? hx)
      have hKX := hA.out.belowB hAt.out hBo.out
      obtain ⟨ob, off, rfl, e0, e1, e2, e3, e4⟩ := hKX.2 i x hx
      obtain ⟨kk, s0, ii, p0, m⟩ := x
      simp only at xk xs xi xp xn e0 e1 e2 e3 e4
      replace hx := Lib.hid hx
      have HW1 := Within_any s0 1 wo (by omega) xs.1 xs.2
      have HW2 := Within_any p0 8 wo (by omega) xp.1 xp.2
      have HW3 := Within_any m 9 wo (by omega) xn.1 xn.2
      have HW4 := Within_any ii 30 wo (by omega) xi.1 xi.2
      have hk1 := withinN_le s0 1
      have hk2 := withinN_le p0 8
      have hk3 := withinN_le m 9
      have hk4 := withinN_le ii 30
      obtain ⟨k1, ek1⟩ : ∃ k, withinN s0 1 = k := ⟨_, rfl⟩
      obtain ⟨k2, ek2⟩ : ∃ k, withinN p0 8 = k := ⟨_, rfl⟩
      obtain ⟨k3, ek3⟩ : ∃ k, withinN m 9 = k := ⟨_, rfl⟩
      obtain ⟨k4, ek4⟩ : ∃ k, withinN ii 30 = k := ⟨_, rfl⟩
      rw [ek1] at HW1 hk1
      rw [ek2] at HW2 hk2
      rw [ek3] at HW3 hk3
      rw [ek4] at HW4 hk4
      replace HW1 := Lib.hid HW1
      replace HW2 := Lib.hid HW2
      replace HW3 := Lib.hid HW3
      replace HW4 := Lib.hid HW4
      replace hKX := Lib.hid hKX
      clear ek1 ek2 ek3 ek4 xk xs xi xp xn
      obtain ⟨s, es⟩ : ∃ s : Int, 1 + (k1 : Int) = s := ⟨_, rfl⟩
      obtain ⟨p, ep⟩ : ∃ p : Int, (k2 : Int) - 4 = p := ⟨_, rfl⟩
      obtain ⟨q, eq⟩ : ∃ q : Int, 1 + (k3 : Int) = q := ⟨_, rfl⟩
      have hs1 : 1 ≤ s := by omega
      have hs2 : s ≤ 2 := by omega
      have hs12 : Hid (s = 1 ∨ s = 2) := Lib.hid (by omega)
      have hp1 : -4 ≤ p := by omega
      have hp2 : p ≤ 4 := by omega
      have hq1 : 1 ≤ q := by omega
      have hq2 : q ≤ 10 := by omega
      go_wp2_with fail
      refine HW1.out.mono ?_
      rintro e wq ⟨rfl, ew⟩
      obtain rfl := ew.symm
      go_wp2_with fail
      refine HW2.out.mono ?_
      rintro e wq ⟨rfl, ew⟩
      obtain rfl := ew.symm
      go_wp2_with fail
      refine HW3.out.mono ?_
      rintro e wq ⟨rfl, ew⟩
      obtain rfl := ew.symm
      go_wp2_with fail
      refine HW4.out.mono ?_
      rintro e wq ⟨rfl, ew⟩
      obtain rfl := ew.symm
      clear es ep eq HW1 HW2 HW3 HW4 e1 e2 e3 e4
      go_upto_if 68 with (fail)
      go_cut [5] from 62 to 92 (fun iv wy => iv = .int .i64 i ∧ Hid (TwoAt B B2 a b w wy))
      case first =>
        by_cases hk : kk.tmod 3 = 0
        · have dk : (kk.tmod 3 != 0) = false := by simpa using hk
          replace hk := Lib.hid hk
          have H1 := BFill_any B a Ga L0 (k4 : Int) q wo hKa ⟨by omega, by omega⟩
          have H2 := fun (W : World) (h : Hid (BK B2 b Gb K0 W)) => BFill_any B2 b Gb K0 (k4 : Int) q W h ⟨by omega, by omega⟩
          have hM2 := hM.out.fill hKa.out.lok hKb.out.lok (k4 : Int) q
          obtain ⟨⟨f1, L1⟩, ef1⟩ : ∃ z, fillO L0 (k4 : Int) q = z := ⟨_, rfl⟩
          obtain ⟨⟨f2, K1⟩, ef2⟩ : ∃ z, fillO K0 (k4 : Int) q = z := ⟨_, rfl⟩
          rw [ef1, ef2] at hM2
          rw [ef1] at H1
          rw [ef2] at H2
          obtain ⟨hf, hM3⟩ := hM2
          have hf' : f2 = f1 := hf
          subst hf'
          replace hM3 := Lib.hid hM3
          replace H1 := Lib.hid H1
          replace H2 := Lib.hid H2
          replace ef1 := Lib.hid ef1
          replace ef2 := Lib.hid ef2
          clear hf
          have df : (f2 != f2) = false := by simp
          have wn : IntKind.i64.wrap (-p) = -p := IntWalk.i64_in _ (by omega)
          have ws : IntKind.i64.wrap (3 - s) = 3 - s := IntWalk.i64_in _ (by omega)
          go_wp2_with fail
          refine H1.out.mono ?_
          rintro e w5 ⟨G5, rfl, a5, o5, n5⟩
          have hKb5 := Lib.hid (hKb.out.only o5 (fun k hk e => hap.out k e hk))
          have H5 := Lib.hid (H2.out w5 hKb5)
          have hap5 : Hid (∀ k, G5 k → ¬ Gb k) := Lib.hid (fun k hk e => (n5 k hk).elim (fun h => hap.out k h e) (fun h => by have := (hKb.out.lt e).2; omega))
          have hB5 := Lib.hid (hBo.out.trans (hKa.out.mine o5))
          replace a5 := Lib.hid a5
          clear H1 H2 o5 n5
          go_wp2_with fail
          refine H5.out.mono ?_
          rintro e w6 ⟨G6, rfl, a6, o6, n6⟩
          have hT6 : Hid (TwoAt B B2 a b w w6) := Lib.hid ⟨G5, G6, _, _, a5.out.only o6 (fun k hk e => hap5.out k hk e), a6, fun k hk e => (n6 k e).elim (fun h => hap5.out k hk h) (fun h => by have := (a5.out.lt hk).2; omega), hM3.out, hB5.out.trans ((hKb5.out.mine o6).mono hBB.out)⟩
          clear a6 o6 n6 H5
          go_wp2_with fail
          go_meet
          exact ⟨rfl, hT6⟩
        · have dk : (kk.tmod 3 != 0) = true := by simpa using hk
          replace hk := Lib.hid hk
          have H1 := BAdd_any B a Ga L0 (k4 : Int) s p q wo hKa (Lib.hid ⟨by omega, by omega⟩) (Lib.hid ⟨by omega, by omega⟩)
          have H2 := fun (W : World) (h : Hid (BK B2 b Gb K0 W)) => BAdd_any B2 b Gb K0 (k4 : Int) (3 - s) (-p) q W h (Lib.hid ⟨by omega, by omega⟩) (Lib.hid ⟨by omega, by omega⟩)
          have hM2 := hM.out.add hKa.out.lok hKb.out.lok hs12.out (k4 : Int) q (p := p) ⟨by omega, by omega⟩
          obtain ⟨⟨f1, L1⟩, ef1⟩ : ∃ z, addO L0 (k4 : Int) s p q = z := ⟨_, rfl⟩
          obtain ⟨⟨f2, K1⟩, ef2⟩ : ∃ z, addO K0 (k4 : Int) (3 - s) (-p) q = z := ⟨_, rfl⟩
          rw [ef1, ef2] at hM2
          rw [ef1] at H1
          rw [ef2] at H2
          obtain ⟨hf, hM3⟩ := hM2
          have hf' : f2 = f1 := hf
          subst hf'
          replace hM3 := Lib.hid hM3
          replace H1 := Lib.hid H1
          replace H2 := Lib.hid H2
          replace ef1 := Lib.hid ef1
          replace ef2 := Lib.hid ef2
          clear hf
          have df : (f2 != f2) = false := by simp
          have wn : IntKind.i64.wrap (-p) = -p := IntWalk.i64_in _ (by omega)
          have ws : IntKind.i64.wrap (3 - s) = 3 - s := IntWalk.i64_in _ (by omega)
          go_wp2_with fail
          refine H1.out.mono ?_
          rintro e w5 ⟨G5, rfl, a5, o5, n5⟩
          have hKb5 := Lib.hid (hKb.out.only o5 (fun k hk e => hap.out k e hk))
          have H5 := Lib.hid (H2.out w5 hKb5)
          have hap5 : Hid (∀ k, G5 k → ¬ Gb k) := Lib.hid (fun k hk e => (n5 k hk).elim (fun h => hap.out k h e) (fun h => by have := (hKb.out.lt e).2; omega))
          have hB5 := Lib.hid (hBo.out.trans (hKa.out.mine o5))
          replace a5 := Lib.hid a5
          clear H1 H2 o5 n5
          go_wp2_with fail
          refine H5.out.mono ?_
          rintro e w6 ⟨G6, rfl, a6, o6, n6⟩
          have hT6 : Hid (TwoAt B B2 a b w w6) := Lib.hid ⟨G5, G6, _, _, a5.out.only o6 (fun k hk e => hap5.out k hk e), a6, fun k hk e => (n6 k e).elim (fun h => hap5.out k hk h) (fun h => by have := (a5.out.lt hk).2; omega), hM3.out, hB5.out.trans ((hKb5.out.mine o6).mono hBB.out)⟩
          clear a6 o6 n6 H5
          go_wp2_with fail
          go_meet
          exact ⟨rfl, hT6⟩
      case rest =>
        clear hKa hKb hap hM hBo hT
        obtain ⟨rfl, hT⟩ := hcut
        obtain ⟨Ga, Gb, L1, K1, kA, kB, kap, kM, kBl⟩ := hT.out
        have hKa := Lib.hid kA
        have hKb := Lib.hid kB
        have hM := Lib.hid kM
        have hBc := Lib.hid kBl
        clear kA kB kap kM kBl
        go_wp2_with fail
        go_loopw [10] (fun sv wr => ∃ (s : Nat), sv = .int .i64 s ∧ 1 ≤ s ∧ s ≤ 3 ∧ Hid (Below wc.heap.size wc wr)) (fun sv _ => (3 - intOf sv).toNat)
        case atStart => exact ⟨1, rfl, by omega, by omega, Lib.hid (Below.refl _ _)⟩
        case round =>
          rename World => w2
          obtain ⟨s, rfl, hs1, hs3, hB2⟩ := hrel
          have hKa2 := Lib.hid (hKa.out.below hB2.out)
          have hKb2 := Lib.hid (hKb.out.below hB2.out)
          by_cases hs : s ≤ 2
          · have f1 : decide ((s : Int) ≤ 2) = true := decide_eq_true (by omega)
            have f2 : (s : Int) ≤ 2 := by omega
            have ws : IntKind.i64.wrap (3 - (s : Int)) = 3 - (s : Int) := IntWalk.i64_in _ (by omega)
            have HL := BLadder_any B a Ga L1 (s : Int) w2 hKa2
            have HL2 := fun (W : World) (h : Hid (BK B2 b Gb K1 W)) => BLadder_any B2 b Gb K1 (3 - (s : Int)) W h
            rw [hM.out.lad (s := (s : Int)) (by omega)] at HL2
            have hcb := (cnt_bd hKa.out.lok (s : Int) 0).2.2
            obtain ⟨D, eD⟩ : ∃ D, ladO L1 (s : Int) = D := ⟨_, rfl⟩
            rw [eD] at HL HL2 hcb
            obtain ⟨nl, enl⟩ : ∃ k, D.length = k := ⟨_, rfl⟩
            rw [enl] at hcb
            replace HL := Lib.hid HL
            replace HL2 := Lib.hid HL2
            replace eD := Lib.hid eD
            go_wp2_with fail
            refine HL.out.mono ?_
            rintro e w3 ⟨v3, rfl, O3, b3⟩
            obtain ⟨A3, cap3, rfl, hv3, y1, y2, -, -⟩ := O3.slice
            rw [enl] at y1 hv3 ⊢
            have hKb3 := Lib.hid (hKb2.out.below b3)
            have hKa3 := Lib.hid (hKa2.out.below b3)
            have hB3 := Lib.hid (hB2.out.trans (b3.mono hB2.out.size))
            have HL3 := Lib.hid (HL2.out w3 hKb3)
            replace hv3 := Lib.hid hv3
            clear HL HL2 O3 b3
            go_wp2_with fail
            refine HL3.out.mono ?_
            rintro e w4 ⟨v4, rfl, O4, b4⟩
            obtain ⟨A4, cap4, rfl, hv4, y3, y4, -, -⟩ := O4.slice
            rw [List.length_map, enl] at y3 hv4 ⊢
            have hKa4 := Lib.hid (hKa3.out.below b4)
            have hKb4 := Lib.hid (hKb3.out.below b4)
            have hB4 := Lib.hid (hB3.out.trans (b4.mono hB3.out.size))
            have hv3' := Lib.hid (hv3.out.below b4)
            replace hv4 := Lib.hid hv4
            replace enl := Lib.hid enl
            have dn : ((nl : Int) != (nl : Int)) = false := by simp
            clear HL3 O4 b4 hv3
            go_wp2_with fail
            refine BMir_lev hKa4 hKb4 hM eD enl hv3' hv4 hs1 hs y1 y2 y3 y4 hcb (Lib.hid (fun _ _ d _ _ h => by cases d <;> exact h)) (Lib.hid ?_)
            intro u2 u14 u15 u16 u109 u110 u111 u112 u113 u114 u115 u116 u117 u118 u119 u120 u121 u122 u123 u124 u125 u126 u127 u128 u129 u130 u131 u132 u133 u134 u135 u136 u137 u138 u139 u140 u141 u142 u143 u144 u145 u146 u147 u148 u149 u150 u151 u152 u153 u154 u155 u156 u157 u158 u159 u160 u161 u162 u163 u164 u165 u166 u167 u168 u169 u170 u171 u172 u173 u174 u175 u176 u177 u178 u179 u180 u181 u182 u183 u184 u185 u186 u187 u188 u189 u190 u191 u192 u193 u194 u195 u196 u197 u198 u199 u200 u201 u202 u203 u204 u205 u206 u207 u208 u209 u210 u211 u212 u213 u214 u215 u216 u217 u218 u219 w5 hB5
            have hB6 := Lib.hid (hB4.out.trans (hB5.out.mono hB4.out.size))
            go_wp2_with fail
            go_roundw
            case rel => exact ⟨s + 1, by go_num, by omega, by omega, hB6⟩
            case measure => simp [intOf]; omega
          · obtain rfl : s = 3 := by omega
            have f1 : decide ((3 : Int) ≤ 2) = false := by decide
            have hT2 := Lib.hid (hT.out.below hB2.out)
            go_wp2_with fail
            go_roundw
            case rel => exact ⟨i + 1, by go_num, by omega, by omega, hT2⟩
            case measure => simp [intOf]; omega
    · have hd : (decide ((i : Int) < (n : Int)) && decide ((i : Int) < 50)) = false := by
        rcases (show ¬ i < n ∨ ¬ i < 50 by omega) with h | h
        · simp; intro h2; omega
        · simp; intro h2; omega
      have HKn := Lib.hid (BKnown_any wo)
      have hfin : Hid (∀ W, Below wo.heap.size wo W → Below B w W) := Lib.hid (fun W h => by
        obtain ⟨_, _, _, _, k1, _, _, _, k5⟩ := hT.out
        exact k5.trans (h.mono k1.size))
      by_cases hin : i < n
      · have d1 : decide ((i : Int) < (n : Int)) = true := decide_eq_true (by omega)
        have d1' : decide (i < n) = true := decide_eq_true hin
        have d2 : decide ((i : Int) < 50) = false := decide_eq_false (by omega)
        go_wp2_with fail
        refine HKn.out.mono ?_
        rintro e w9 ⟨rfl, b9⟩
        replace b9 := Lib.hid b9
        go_wp2_with fail
        go_ret
        exact ⟨rfl, hfin.out _ b9.out⟩
      · have d1 : decide ((i : Int) < (n : Int)) = false := decide_eq_false (by omega)
        have d1' : decide (i < n) = false := decide_eq_false hin
        go_wp2_with fail
        refine HKn.out.mono ?_
        rintro e w9 ⟨rfl, b9⟩
        replace b9 := Lib.hid b9
        go_wp2_with fail
        go_ret
        exact ⟨rfl, hfin.out _ b9.out⟩
end Go.Proofs.Ytlknlicokacoiaa
