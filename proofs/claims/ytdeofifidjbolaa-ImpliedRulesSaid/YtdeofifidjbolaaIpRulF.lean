/-
  Three instruments of which one is the spread of the two others: it is found.
-/
import Derived.Test.YtdeofifidjbolaaIpTells
import Derived.Deep.QuietTactic
import Derived.BigQuiet
import Derived.Deep.Cut
namespace Go.Proofs.Ytdeofifidjbolaa
open Go.RowKit
set_option linter.unusedVariables false
set_option linter.unusedSimpArgs false

def loopsOf : Code → List Code
  | .loop c => c :: loopsOf c
  | .seq a b => loopsOf a ++ loopsOf b
  | .block _ c => loopsOf c
  | .scope c => loopsOf c
  | .cond _ a b => loopsOf a ++ loopsOf b
  | _ => []
noncomputable def bdRul : Code := ((loopsOf (Try.f5.body.getD .skip))[3]?).getD .skip
set_option maxRecDepth 100000 in
set_option maxHeartbeats 8000000 in
theorem IRul_find {Q0 : Exit → Act → World → Prop} {c0 c1 c2 c3 c4 c5 c6 c8 c9 c10 c11 c12 c15 c16 c19 c20 c21 c22 c23 c24 c25 c26 c27 c28 c29 c30 c31 c32 c33 c34 c35 c36 c37 c38 c39 c40 c41 c42 c43 c44 c45 c46 c47 c48 c49 c50 c51 c52 c53 c54 c55 c56 c57 c58 c59 c60 c61 c62 c63 c64 c65 c66 c67 c68 c69 c70 c71 c72 c73 c74 c75 c76 c77 c78 c79 c80 c81 c82 c83 c84 c85 c86 c87 c88 c89 c90 c91 c92 c93 c94 c95 c96 c97 c98 c99 c100 c101 c102 c103 c104 c105 c106 c107 c108 c109 c110 c111 c112 c113 c114 c115 c116 c117 c118 c119 c120 c121 c122 c123 c124 c125 c126 c127 c128 c129 c130 c131 c132 c133 c134 c135 c136 c137 c138 c139 c140 c141 c142 c143 c144 c145 c146 c147 c148 c149 c150 c151 c152 c153 c154 c155 c156 c157 c158 c159 c160 c161 c162 c163 c164 c165 c166 c167 c168 c169 c170 c171 c172 c173 c174 c175 c176 c177 c178 c179 c180 c181 c182 c183 c184 c185 c186 c187 c188 c189 c190 c191 c192 c193 c194 c195 c196 c197 c198 c199 c200 c201 c202 c203 c204 c205 c206 c207 c208 c209 c210 c211 c212 c213 c214 : Value} {mb ab qb pn pm po n1m c1m n2m c2m : Nat} {codem : List UInt8} {A1m A2m : Option Addr} {tickm lowm highm widem rulem topm leastm partm : Int} {AT PR : Nat → Int} {LG : Int → Int × Int × Bool} {w3 : World}
    (hm : Hid (∀ W, Below w3.heap.size w3 W → W.heap[mb]? = some (.cells #[.string (str codem), .slice A1m n1m c1m, .int .i64 tickm, .int .i64 lowm, .int .i64 highm, .int .i64 widem, .int .i64 rulem, .int .i64 topm, .int .i64 leastm, .int .i64 partm, .slice A2m n2m c2m] 25 (0, 0)))) (hat : Hid (∀ W, Below w3.heap.size w3 W → ∀ i, i < 3 → W.cell? ⟨ab, i, none⟩ = some (.int .i64 (AT i)) ∧ W.cell? ⟨qb, i, none⟩ = some (.int .i64 (PR i))))
    (hL : Hid (∀ i, i < 3 → ∀ W, Below w3.heap.size w3 W → Calls Try.prog 20 #[.agg #[.string (str codem), .slice A1m n1m c1m, .int .i64 tickm, .int .i64 lowm, .int .i64 highm, .int .i64 widem, .int .i64 rulem, .int .i64 topm, .int .i64 leastm, .int .i64 partm, .slice A2m n2m c2m], .int .i64 (AT i)] W fun e w' => e = .returned (.tuple #[.int .i64 (LG (AT i)).1, .int .i64 (LG (AT i)).2.1, .bool (LG (AT i)).2.2]) ∧ Below W.heap.size W w'))
    (hb : Hid (∀ i, i < 3 → -10000000 ≤ PR i ∧ PR i ≤ 10000000)) (hp : Hid (pn < 3 ∧ pm < 3 ∧ pn ≠ pm ∧ po + pn + pm = 3 ∧ LG (AT pn) = (AT pm, AT po, true) ∧ PR pm - PR po = PR pn))
    (hQp : Hid (∀ c (a : Act) d v w, Q0 (.panic c) (a.put d v) w → Q0 (.panic c) a w)) (hX : Hid (∀ (en : Nat) (u19 u20 u21 u22 u23 u137 u138 u139 u140 u141 u142 u143 u144 u145 u146 u147 u148 u149 u150 u151 u152 u153 u154 u155 u156 u157 u158 u159 u160 u161 u162 u163 u164 u165 u166 u167 u168 u169 u170 u171 u172 u173 u174 u175 u176 u177 u178 u179 u180 u181 u182 u183 u184 u185 u186 u187 u188 u189 u190 u191 u192 u193 u194 u195 u196 u197 u198 u199 u200 : Value) (w4 : World), Hid (Below w3.heap.size w3 w4) → Q0 (.exit 6) ⟨List.toArray (c0 :: c1 :: c2 :: c3 :: c4 :: c5 :: c6 :: .pointer (some ⟨mb, 0, none⟩) :: c8 :: c9 :: c10 :: c11 :: c12 :: .pointer (some ⟨ab, 0, none⟩) :: .pointer (some ⟨qb, 0, none⟩) :: c15 :: c16 :: .bool true :: .int .i64 (en : Int) :: u19 :: u20 :: u21 :: u22 :: u23 :: c24 :: c25 :: c26 :: c27 :: c28 :: c29 :: c30 :: c31 :: c32 :: c33 :: c34 :: c35 :: c36 :: c37 :: c38 :: c39 :: c40 :: c41 :: c42 :: c43 :: c44 :: c45 :: c46 :: c47 :: c48 :: c49 :: c50 :: c51 :: c52 :: c53 :: c54 :: c55 :: c56 :: c57 :: c58 :: c59 :: c60 :: c61 :: c62 :: c63 :: c64 :: c65 :: c66 :: c67 :: c68 :: c69 :: c70 :: c71 :: c72 :: c73 :: c74 :: c75 :: c76 :: c77 :: c78 :: c79 :: c80 :: c81 :: c82 :: c83 :: c84 :: c85 :: c86 :: c87 :: c88 :: c89 :: c90 :: c91 :: c92 :: c93 :: c94 :: c95 :: c96 :: c97 :: c98 :: c99 :: c100 :: c101 :: c102 :: c103 :: c104 :: c105 :: c106 :: c107 :: c108 :: c109 :: c110 :: c111 :: c112 :: c113 :: c114 :: c115 :: c116 :: c117 :: c118 :: c119 :: c120 :: c121 :: c122 :: c123 :: c124 :: c125 :: c126 :: c127 :: c128 :: c129 :: c130 :: c131 :: c132 :: c133 :: c134 :: c135 :: c136 :: u137 :: u138 :: u139 :: u140 :: u141 :: u142 :: u143 :: u144 :: u145 :: u146 :: u147 :: u148 :: u149 :: u150 :: u151 :: u152 :: u153 :: u154 :: u155 :: u156 :: u157 :: u158 :: u159 :: u160 :: u161 :: u162 :: u163 :: u164 :: u165 :: u166 :: u167 :: u168 :: u169 :: u170 :: u171 :: u172 :: u173 :: u174 :: u175 :: u176 :: u177 :: u178 :: u179 :: u180 :: u181 :: u182 :: u183 :: u184 :: u185 :: u186 :: u187 :: u188 :: u189 :: u190 :: u191 :: u192 :: u193 :: u194 :: u195 :: u196 :: u197 :: u198 :: u199 :: u200 :: c201 :: c202 :: c203 :: c204 :: c205 :: c206 :: c207 :: c208 :: c209 :: c210 :: c211 :: c212 :: c213 :: c214 :: []), []⟩ w4)) :
    Code.wp Try.prog (.loop bdRul) Q0 ⟨List.toArray (c0 :: c1 :: c2 :: c3 :: c4 :: c5 :: c6 :: .pointer (some ⟨mb, 0, none⟩) :: c8 :: c9 :: c10 :: c11 :: c12 :: .pointer (some ⟨ab, 0, none⟩) :: .pointer (some ⟨qb, 0, none⟩) :: c15 :: c16 :: .bool false :: .int .i64 0 :: c19 :: c20 :: c21 :: c22 :: c23 :: c24 :: c25 :: c26 :: c27 :: c28 :: c29 :: c30 :: c31 :: c32 :: c33 :: c34 :: c35 :: c36 :: c37 :: c38 :: c39 :: c40 :: c41 :: c42 :: c43 :: c44 :: c45 :: c46 :: c47 :: c48 :: c49 :: c50 :: c51 :: c52 :: c53 :: c54 :: c55 :: c56 :: c57 :: c58 :: c59 :: c60 :: c61 :: c62 :: c63 :: c64 :: c65 :: c66 :: c67 :: c68 :: c69 :: c70 :: c71 :: c72 :: c73 :: c74 :: c75 :: c76 :: c77 :: c78 :: c79 :: c80 :: c81 :: c82 :: c83 :: c84 :: c85 :: c86 :: c87 :: c88 :: c89 :: c90 :: c91 :: c92 :: c93 :: c94 :: c95 :: c96 :: c97 :: c98 :: c99 :: c100 :: c101 :: c102 :: c103 :: c104 :: c105 :: c106 :: c107 :: c108 :: c109 :: c110 :: c111 :: c112 :: c113 :: c114 :: c115 :: c116 :: c117 :: c118 :: c119 :: c120 :: c121 :: c122 :: c123 :: c124 :: c125 :: c126 :: c127 :: c128 :: c129 :: c130 :: c131 :: c132 :: c133 :: c134 :: c135 :: c136 :: c137 :: c138 :: c139 :: c140 :: c141 :: c142 :: c143 :: c144 :: c145 :: c146 :: c147 :: c148 :: c149 :: c150 :: c151 :: c152 :: c153 :: c154 :: c155 :: c156 :: c157 :: c158 :: c159 :: c160 :: c161 :: c162 :: c163 :: c164 :: c165 :: c166 :: c167 :: c168 :: c169 :: c170 :: c171 :: c172 :: c173 :: c174 :: c175 :: c176 :: c177 :: c178 :: c179 :: c180 :: c181 :: c182 :: c183 :: c184 :: c185 :: c186 :: c187 :: c188 :: c189 :: c190 :: c191 :: c192 :: c193 :: c194 :: c195 :: c196 :: c197 :: c198 :: c199 :: c200 :: c201 :: c202 :: c203 :: c204 :: c205 :: c206 :: c207 :: c208 :: c209 :: c210 :: c211 :: c212 :: c213 :: c214 :: []), []⟩ w3 := by
  conv => arg 2; arg 1; whnf
  have hd0 : Hid (false = true ∨ 0 ≤ pn) := Lib.hid (.inr (Nat.zero_le _))
  have B0 := Lib.hid (Below.refl w3.heap.size w3)
  go_loopw [17, 18] (fun fv iv wr => ∃ (n : Nat) (b : Bool), fv = .bool b ∧ iv = .int .i64 (n : Int) ∧ n ≤ 3 ∧ Hid (b = true ∨ n ≤ pn) ∧ Hid (Below w3.heap.size w3 wr)) (fun _ iv _ => 3 - (intOf iv).toNat)
  case atStart => exact ⟨0, false, rfl, rfl, by omega, hd0, B0⟩
  case round =>
    clear hd0 B0
    obtain ⟨n, b, rfl, rfl, hn, hd, hB⟩ := hrel
    rename World => wo
    by_cases hlt : n < 3
    · have d1 : decide ((n : Int) < 3) = true := decide_eq_true (by omega)
      have d2 : decide (n < 3) = true := decide_eq_true hlt
      have d3 : (n : Int) < 3 := by omega
      have hn1 : n + 1 ≤ 3 := hlt
      obtain ⟨p1, p2, p3, p4, p5, p6⟩ := hp.out
      obtain ⟨an, ean⟩ : ∃ z, AT n = z := ⟨_, rfl⟩
      have HL := hL.out n hlt
      rw [ean] at HL
      obtain ⟨⟨NR, FR, SP⟩, eLG⟩ : ∃ z, LG an = z := ⟨_, rfl⟩
      rw [eLG] at HL
      replace HL := Lib.hid HL
      have hS : Hid (∀ W, Below w3.heap.size w3 W → (fun W : World => W.cell? ⟨mb, 0, none⟩ = some (.string (str codem)) ∧ W.cell? ⟨mb, 1, none⟩ = some (.slice A1m n1m c1m) ∧ W.cell? ⟨mb, 2, none⟩ = some (.int .i64 tickm) ∧ W.cell? ⟨mb, 3, none⟩ = some (.int .i64 lowm) ∧ W.cell? ⟨mb, 4, none⟩ = some (.int .i64 highm) ∧ W.cell? ⟨mb, 5, none⟩ = some (.int .i64 widem) ∧ W.cell? ⟨mb, 6, none⟩ = some (.int .i64 rulem) ∧ W.cell? ⟨mb, 7, none⟩ = some (.int .i64 topm) ∧ W.cell? ⟨mb, 8, none⟩ = some (.int .i64 leastm) ∧ W.cell? ⟨mb, 9, none⟩ = some (.int .i64 partm) ∧ W.cell? ⟨mb, 10, none⟩ = some (.slice A2m n2m c2m) ∧ W.cell? ⟨ab, n, none⟩ = some (.int .i64 an)) W) := Lib.hid (fun W bW => by
        obtain ⟨a0, a1, a2, a3, a4, a5, a6, a7, a8, a9, a10⟩ := row11 (hm.out W bW)
        obtain ⟨x1, -⟩ := hat.out W bW n hlt
        rw [ean] at x1
        exact ⟨a0, a1, a2, a3, a4, a5, a6, a7, a8, a9, a10, x1⟩)
      have z0 : (fun W : World => W.cell? ⟨mb, 0, none⟩ = some (.string (str codem)) ∧ W.cell? ⟨mb, 1, none⟩ = some (.slice A1m n1m c1m) ∧ W.cell? ⟨mb, 2, none⟩ = some (.int .i64 tickm) ∧ W.cell? ⟨mb, 3, none⟩ = some (.int .i64 lowm) ∧ W.cell? ⟨mb, 4, none⟩ = some (.int .i64 highm) ∧ W.cell? ⟨mb, 5, none⟩ = some (.int .i64 widem) ∧ W.cell? ⟨mb, 6, none⟩ = some (.int .i64 rulem) ∧ W.cell? ⟨mb, 7, none⟩ = some (.int .i64 topm) ∧ W.cell? ⟨mb, 8, none⟩ = some (.int .i64 leastm) ∧ W.cell? ⟨mb, 9, none⟩ = some (.int .i64 partm) ∧ W.cell? ⟨mb, 10, none⟩ = some (.slice A2m n2m c2m) ∧ W.cell? ⟨ab, n, none⟩ = some (.int .i64 an)) wo.drew := hS.out _ hB.out.drew
      replace ean := Lib.hid ean
      replace eLG := Lib.hid eLG
      replace p5 := Lib.hid p5
      replace p6 := Lib.hid p6
      have hd1 : Hid (b = true ∨ n < pn ∨ (n = pn ∧ 0 ≤ pm)) := Lib.hid (by
        rcases hd.out with h | h
        · exact .inl h
        · exact .inr (by omega))
      go_upto_region 25 with (fail)
      refine wp_region_held_drew (S := (fun W : World => W.cell? ⟨mb, 0, none⟩ = some (.string (str codem)) ∧ W.cell? ⟨mb, 1, none⟩ = some (.slice A1m n1m c1m) ∧ W.cell? ⟨mb, 2, none⟩ = some (.int .i64 tickm) ∧ W.cell? ⟨mb, 3, none⟩ = some (.int .i64 lowm) ∧ W.cell? ⟨mb, 4, none⟩ = some (.int .i64 highm) ∧ W.cell? ⟨mb, 5, none⟩ = some (.int .i64 widem) ∧ W.cell? ⟨mb, 6, none⟩ = some (.int .i64 rulem) ∧ W.cell? ⟨mb, 7, none⟩ = some (.int .i64 topm) ∧ W.cell? ⟨mb, 8, none⟩ = some (.int .i64 leastm) ∧ W.cell? ⟨mb, 9, none⟩ = some (.int .i64 partm) ∧ W.cell? ⟨mb, 10, none⟩ = some (.slice A2m n2m c2m) ∧ W.cell? ⟨ab, n, none⟩ = some (.int .i64 an))) (by kernel_rfl) z0 (fun hHeld => ?_)
      refine wpAnyH_take (i := 0) (v := .agg #[.string (str codem), .slice A1m n1m c1m, .int .i64 tickm, .int .i64 lowm, .int .i64 highm, .int .i64 widem, .int .i64 rulem, .int .i64 topm, .int .i64 leastm, .int .i64 partm, .slice A2m n2m c2m]) rfl (by kernel_rfl) (by kernel_rfl) (by kernel_rfl) (fun _ _ _ h => hQp.out _ _ _ _ _ h) (Or.inl ⟨by kernel_rfl, fun W hSw => ?_⟩) (by assumption) ?_
      · (try dsimp only at hSw)
        go_simp
      (try simp only [Act.put, List.setIfInBounds_toArray, List.set_cons_zero, List.set_cons_succ])
      refine wpAnyH_take (i := 1) (v := .int .i64 (n : Int)) rfl (by kernel_rfl) (by kernel_rfl) (by kernel_rfl) (fun _ _ _ h => hQp.out _ _ _ _ _ h) (Or.inl ⟨by kernel_rfl, fun W hSw => ?_⟩) (by assumption) ?_
      · (try dsimp only at hSw)
        go_simp
      (try simp only [Act.put, List.setIfInBounds_toArray, List.set_cons_zero, List.set_cons_succ])
      refine wpAnyH_take (i := 2) (v := .pointer (some ⟨ab, n, none⟩)) rfl (by kernel_rfl) (by kernel_rfl) (by kernel_rfl) (fun _ _ _ h => hQp.out _ _ _ _ _ h) (Or.inl ⟨by kernel_rfl, fun W hSw => ?_⟩) (by assumption) ?_
      · (try dsimp only at hSw)
        go_simp
      (try simp only [Act.put, List.setIfInBounds_toArray, List.set_cons_zero, List.set_cons_succ])
      refine wpAnyH_take (i := 3) (v := .int .i64 an) rfl (by kernel_rfl) (by kernel_rfl) (by kernel_rfl) (fun _ _ _ h => hQp.out _ _ _ _ _ h) (Or.inl ⟨by kernel_rfl, fun W hSw => ?_⟩) (by assumption) ?_
      · (try dsimp only at hSw)
        go_simp
      (try simp only [Act.put, List.setIfInBounds_toArray, List.set_cons_zero, List.set_cons_succ])
      refine wpAnyH_ready (rs := [4]) (by kernel_rfl) (by simp) ?_
      refine AllReadyH.cons rfl (fun K hK => ?_) AllReadyH.nil
      go_simp
      refine (HL.out _ hB.out.drew).mono ?_
      rintro e wl ⟨rfl, bl⟩
      have Bl := below_top hB.out.drew bl
      have zl := hS.out wl Bl
      refine hK.out _ _ zl (fun hHeld => ?_)
      clear hK K
      (try simp only [Act.put, List.setIfInBounds_toArray, List.set_cons_zero, List.set_cons_succ])
      refine wpAnyH_take (i := 5) (v := .tuple #[.int .i64 NR, .int .i64 FR, .bool SP]) rfl (by kernel_rfl) (by kernel_rfl) (by kernel_rfl) (fun _ _ _ h => hQp.out _ _ _ _ _ h) (Or.inl ⟨by kernel_rfl, fun W hSw => ?_⟩) (by assumption) ?_
      · (try dsimp only at hSw)
        go_simp
      (try simp only [Act.put, List.setIfInBounds_toArray, List.set_cons_zero, List.set_cons_succ])
      refine wpAnyH_take (i := 6) (v := .int .i64 NR) rfl (by kernel_rfl) (by kernel_rfl) (by kernel_rfl) (fun _ _ _ h => hQp.out _ _ _ _ _ h) (Or.inl ⟨by kernel_rfl, fun W hSw => ?_⟩) (by assumption) ?_
      · (try dsimp only at hSw)
        go_simp
      (try simp only [Act.put, List.setIfInBounds_toArray, List.set_cons_zero, List.set_cons_succ])
      refine wpAnyH_take (i := 7) (v := .int .i64 FR) rfl (by kernel_rfl) (by kernel_rfl) (by kernel_rfl) (fun _ _ _ h => hQp.out _ _ _ _ _ h) (Or.inl ⟨by kernel_rfl, fun W hSw => ?_⟩) (by assumption) ?_
      · (try dsimp only at hSw)
        go_simp
      (try simp only [Act.put, List.setIfInBounds_toArray, List.set_cons_zero, List.set_cons_succ])
      refine wpAnyH_take (i := 8) (v := .bool SP) rfl (by kernel_rfl) (by kernel_rfl) (by kernel_rfl) (fun _ _ _ h => hQp.out _ _ _ _ _ h) (Or.inl ⟨by kernel_rfl, fun W hSw => ?_⟩) (by assumption) ?_
      · (try dsimp only at hSw)
        go_simp
      (try simp only [Act.put, List.setIfInBounds_toArray, List.set_cons_zero, List.set_cons_succ])
      refine wpAnyH_take (i := 9) (v := .int .i64 NR) rfl (by kernel_rfl) (by kernel_rfl) (by kernel_rfl) (fun _ _ _ h => hQp.out _ _ _ _ _ h) (Or.inl ⟨by kernel_rfl, fun W hSw => ?_⟩) (by assumption) ?_
      · (try dsimp only at hSw)
        go_simp
      (try simp only [Act.put, List.setIfInBounds_toArray, List.set_cons_zero, List.set_cons_succ])
      refine wpAnyH_take (i := 10) (v := .int .i64 FR) rfl (by kernel_rfl) (by kernel_rfl) (by kernel_rfl) (fun _ _ _ h => hQp.out _ _ _ _ _ h) (Or.inl ⟨by kernel_rfl, fun W hSw => ?_⟩) (by assumption) ?_
      · (try dsimp only at hSw)
        go_simp
      (try simp only [Act.put, List.setIfInBounds_toArray, List.set_cons_zero, List.set_cons_succ])
      refine wpAnyH_take (i := 11) (v := .bool SP) rfl (by kernel_rfl) (by kernel_rfl) (by kernel_rfl) (fun _ _ _ h => hQp.out _ _ _ _ _ h) (Or.inl ⟨by kernel_rfl, fun W hSw => ?_⟩) (by assumption) ?_
      · (try dsimp only at hSw)
        go_simp
      (try simp only [Act.put, List.setIfInBounds_toArray, List.set_cons_zero, List.set_cons_succ])
      refine wpAnyH_done (by kernel_rfl) ?_ _
      (try simp only [List.getElem_toArray, List.getElem_cons_succ, List.getElem_cons_zero, Act.put, List.setIfInBounds_toArray, List.set_cons_zero, List.set_cons_succ])
      replace Bl := Lib.hid Bl
      clear hHeld z0 zl bl hB HL hd hS
      go_wp2_with fail
      go_loopw [17, 22] (fun fv iv w' => ∃ (m : Nat) (b2 : Bool), fv = .bool b2 ∧ iv = .int .i64 (m : Int) ∧ m ≤ 3 ∧ Hid (b2 = true ∨ n < pn ∨ (n = pn ∧ m ≤ pm)) ∧ Hid (Below w3.heap.size w3 w')) (fun _ iv _ => 3 - (intOf iv).toNat)
      case atStart => exact ⟨0, b, rfl, rfl, by omega, hd1, Bl⟩
      case round =>
        clear hd1 Bl
        obtain ⟨m, b2, rfl, rfl, hm', hdi, hBi⟩ := hrel
        by_cases hlt2 : m < 3
        · have d4 : decide ((m : Int) < 3) = true := decide_eq_true (by omega)
          have d4' : decide (m < 3) = true := decide_eq_true hlt2
          have d4'' : (m : Int) < 3 := by omega
          have hm1 : m + 1 ≤ 3 := hlt2
          have HC := Lib.hid (hat.out wr hBi.out)
          replace p5 := p5.out
          replace p6 := p6.out
          cases SP with
          | false =>
            have hdn : Hid (b2 = true ∨ n < pn ∨ (n = pn ∧ m + 1 ≤ pm)) := Lib.hid (by
              rcases hdi.out with h | h | ⟨h1, h2⟩
              · exact .inl h
              · exact .inr (.inl h)
              · rcases Nat.lt_or_ge m pm with h3 | h3
                · exact .inr (.inr ⟨h1, h3⟩)
                · exfalso
                  have h4 : m = pm := by omega
                  rw [← h1, ean.out, eLG.out] at p5
                  injection p5 with p51 p52
                  injection p52 with p53 p54
                  exact absurd p54 (by decide)
            )
            clear hdi HC
            go_wp2_with fail
            go_quiet (fail)
            go_wp2_with fail
            go_roundw
            case rel => exact ⟨m + 1, b2, rfl, by go_num, hm1, hdn, Lib.hid (below_drewN hBi.out _)⟩
            case measure => simp [intOf]; omega
          | true =>
            by_cases emn : m = n
            · subst emn
              have dmn : ((m : Int) != (m : Int)) = false := by simp
              have dmn2 : (m != m) = false := by simp
              have hdn : Hid (b2 = true ∨ m < pn ∨ (m = pn ∧ m + 1 ≤ pm)) := Lib.hid (by
                rcases hdi.out with h | h | ⟨h1, h2⟩
                · exact .inl h
                · exact .inr (.inl h)
                · rcases Nat.lt_or_ge m pm with h3 | h3
                  · exact .inr (.inr ⟨h1, h3⟩)
                  · exfalso
                    have h4 : m = pm := by omega
                    exact p3 (by omega)
              )
              clear hdi HC
              go_wp2_with fail
              go_quiet (fail)
              go_wp2_with fail
              go_roundw
              case rel => exact ⟨m + 1, b2, rfl, by go_num, hm1, hdn, Lib.hid (below_drewN hBi.out _)⟩
              case measure => simp [intOf]; omega
            · obtain ⟨o, eo⟩ : ∃ o : Nat, 3 - (n : Int) - (m : Int) = (o : Int) := ⟨3 - n - m, by omega⟩
              have ho : o < 3 := by omega
              have dmn : ((m : Int) != (n : Int)) = true := by simp; omega
              have dmn2 : (m != n) = true := by simp; omega
              have don : ((o : Int) != (n : Int)) = true := by simp; omega
              have don2 : (o != n) = true := by simp; omega
              have dom : ((o : Int) != (m : Int)) = true := by simp; omega
              have dom2 : (o != m) = true := by simp; omega
              have do1 : decide ((o : Int) < 3) = true := decide_eq_true (by omega)
              have do2 : decide (o < 3) = true := decide_eq_true ho
              have do3 : (o : Int) < 3 := by omega
              obtain ⟨x1, x2⟩ := HC.out m hlt2
              obtain ⟨x3, x4⟩ := HC.out o ho
              obtain ⟨-, x5⟩ := HC.out n hlt
              obtain ⟨b1, b1'⟩ := hb.out m hlt2
              obtain ⟨b3, b3'⟩ := hb.out o ho
              obtain ⟨am, eam⟩ : ∃ z, AT m = z := ⟨_, rfl⟩
              obtain ⟨ao, eao⟩ : ∃ z, AT o = z := ⟨_, rfl⟩
              obtain ⟨qm, eqm⟩ : ∃ z, PR m = z := ⟨_, rfl⟩
              obtain ⟨qo, eqo⟩ : ∃ z, PR o = z := ⟨_, rfl⟩
              obtain ⟨qn, eqn⟩ : ∃ z, PR n = z := ⟨_, rfl⟩
              rw [eam] at x1
              rw [eao] at x3
              rw [eqm] at x2 b1 b1'
              rw [eqo] at x4 b3 b3'
              rw [eqn] at x5
              replace eam := Lib.hid eam
              replace eao := Lib.hid eao
              replace eqm := Lib.hid eqm
              replace eqo := Lib.hid eqo
              replace eqn := Lib.hid eqn
              clear HC
              by_cases e1 : am = NR
              · have d5 : (am == NR) = true := by simpa using e1
                have d5' : decide (am = NR) = true := decide_eq_true e1
                by_cases e2 : ao = FR
                · have d6 : (ao == FR) = true := by simpa using e2
                  have d6' : decide (ao = FR) = true := decide_eq_true e2
                  by_cases e3 : qm - qo = qn
                  · have d7 : (qm - qo == qn) = true := by simpa using e3
                    have d7' : decide (qm - qo = qn) = true := decide_eq_true e3
                    replace e1 := Lib.hid e1
                    replace e2 := Lib.hid e2
                    replace e3 := Lib.hid e3
                    clear hdi
                    go_wp2_with fail
                    go_quiet (fail)
                    go_wp2_with fail
                    go_roundw
                    case rel => exact ⟨m + 1, true, rfl, by go_num, hm1, Lib.hid (.inl rfl), Lib.hid (below_drewN hBi.out _)⟩
                    case measure => simp [intOf]; omega
                  · have d7 : (qm - qo == qn) = false := by simpa using e3
                    have d7' : decide (qm - qo = qn) = false := decide_eq_false e3
                    have hdn : Hid (b2 = true ∨ n < pn ∨ (n = pn ∧ m + 1 ≤ pm)) := Lib.hid (by
                      rcases hdi.out with h | h | ⟨h1, h2⟩
                      · exact .inl h
                      · exact .inr (.inl h)
                      · rcases Nat.lt_or_ge m pm with h3 | h3
                        · exact .inr (.inr ⟨h1, h3⟩)
                        · exfalso
                          have h4 : m = pm := by omega
                          have h5 : po = o := by omega
                          rw [← h1, ← h4, h5, eqm.out, eqo.out, eqn.out] at p6
                          exact e3 p6
                    )
                    replace e1 := Lib.hid e1
                    replace e2 := Lib.hid e2
                    clear hdi e3
                    go_wp2_with fail
                    go_quiet (fail)
                    go_wp2_with fail
                    go_roundw
                    case rel => exact ⟨m + 1, b2, rfl, by go_num, hm1, hdn, Lib.hid (below_drewN hBi.out _)⟩
                    case measure => simp [intOf]; omega
                · have d6 : (ao == FR) = false := by simpa using e2
                  have d6' : decide (ao = FR) = false := decide_eq_false e2
                  have hdn : Hid (b2 = true ∨ n < pn ∨ (n = pn ∧ m + 1 ≤ pm)) := Lib.hid (by
                    rcases hdi.out with h | h | ⟨h1, h2⟩
                    · exact .inl h
                    · exact .inr (.inl h)
                    · rcases Nat.lt_or_ge m pm with h3 | h3
                      · exact .inr (.inr ⟨h1, h3⟩)
                      · exfalso
                        have h4 : m = pm := by omega
                        have h5 : po = o := by omega
                        rw [← h1, ← h4, h5, ean.out, eLG.out, eao.out] at p5
                        injection p5 with p51 p52
                        injection p52 with p53 p54
                        exact e2 p53.symm
                  )
                  replace e1 := Lib.hid e1
                  clear hdi e2
                  go_wp2_with fail
                  go_quiet (fail)
                  go_wp2_with fail
                  go_roundw
                  case rel => exact ⟨m + 1, b2, rfl, by go_num, hm1, hdn, Lib.hid (below_drewN hBi.out _)⟩
                  case measure => simp [intOf]; omega
              · have d5 : (am == NR) = false := by simpa using e1
                have d5' : decide (am = NR) = false := decide_eq_false e1
                have hdn : Hid (b2 = true ∨ n < pn ∨ (n = pn ∧ m + 1 ≤ pm)) := Lib.hid (by
                  rcases hdi.out with h | h | ⟨h1, h2⟩
                  · exact .inl h
                  · exact .inr (.inl h)
                  · rcases Nat.lt_or_ge m pm with h3 | h3
                    · exact .inr (.inr ⟨h1, h3⟩)
                    · exfalso
                      have h4 : m = pm := by omega
                      rw [← h1, ← h4, ean.out, eLG.out, eam.out] at p5
                      injection p5 with p51 p52
                      exact e1 p51.symm
                )
                clear hdi e1
                go_wp2_with fail
                go_quiet (fail)
                go_wp2_with fail
                go_roundw
                case rel => exact ⟨m + 1, b2, rfl, by go_num, hm1, hdn, Lib.hid (below_drewN hBi.out _)⟩
                case measure => simp [intOf]; omega
        · have em : m = 3 := by omega
          have d4 : decide ((m : Int) < 3) = false := decide_eq_false (by omega)
          have d4' : decide (m < 3) = false := decide_eq_false hlt2
          have hd2 : Hid (b2 = true ∨ n + 1 ≤ pn) := Lib.hid (by
            obtain ⟨q1, q2, -⟩ := hp.out
            rcases hdi.out with h | h | ⟨h1, h2⟩
            · exact .inl h
            · exact .inr (by omega)
            · exact .inr (by omega))
          replace em := Lib.hid em
          clear hlt2 hdi
          go_wp2_with fail
          go_roundw
          case rel => exact ⟨n + 1, b2, rfl, by go_num, hn1, hd2, hBi⟩
          case measure => simp [intOf]; omega
    · have en : n = 3 := by omega
      have d1 : decide ((n : Int) < 3) = false := decide_eq_false (by omega)
      have d2 : decide (n < 3) = false := decide_eq_false hlt
      have eb : b = true := by
        obtain ⟨p1, -⟩ := hp.out
        rcases hd.out with h | h
        · exact h
        · omega
      subst eb
      replace en := Lib.hid en
      clear hlt hd
      go_wp2_with fail
      exact hX.out n _ _ _ _ _ _ _ _ _ _ _ _ _ _ _ _ _ _ _ _ _ _ _ _ _ _ _ _ _ _ _ _ _ _ _ _ _ _ _ _ _ _ _ _ _ _ _ _ _ _ _ _ _ _ _ _ _ _ _ _ _ _ _ _ _ _ _ _ _ _ hB
end Go.Proofs.Ytdeofifidjbolaa
