/-
  The walk of BookRules.
-/
import Derived.Test.YtlknlicokacoiaaBkRulesQ
import Derived.Test.YtlknlicokacoiaaOpenAsk9
import Derived.Test.YtlknlicokacoiaaBkKnown
import Derived.Deep.RegionHeld3
import Derived.Deep.CutBlock
import Derived.Deep.QuietTactic
import Derived.BigQuiet
namespace Go.Proofs.Ytlknlicokacoiaa
open Go.RowKit
set_option linter.unusedVariables false
set_option linter.unusedSimpArgs false
set_option linter.constructorNameAsVariable false

def upN (M : List Or) (s : Nat) : Int := if s ≤ 1 then 0 else if s = 2 then ((M.filter (fun x => decide (x.s = 1))).length : Int) else (M.length : Int)
theorem upN_next {M : List Or} (h : LOk M) {s : Nat} (hs : s = 1 ∨ s = 2) : upN M (s + 1) = upN M s + cntO M (s : Int) (ladO M (s : Int)).length := by
  rw [cnt_all h]
  have := two_sides h
  rcases hs with rfl | rfl
  · simp [upN]
  · simp [upN]; omega
theorem upN_bd {M : List Or} (h : LOk M) (s : Nat) : 0 ≤ upN M s ∧ upN M s ≤ 250 := by
  have h1 := List.length_filter_le (fun x : Or => decide (x.s = 1)) M
  have h2 := h.room
  unfold upN
  split
  · omega
  · split <;> omega
def loopsOf : Code → List Code
  | .loop c => c :: loopsOf c
  | .seq a b => loopsOf a ++ loopsOf b
  | .block _ c => loopsOf c
  | .scope c => loopsOf c
  | .cond _ a b => loopsOf a ++ loopsOf b
  | _ => []
noncomputable def bdLad : Code := ((loopsOf (Try.f6.body.getD .skip))[2]?).getD .skip
set_option maxRecDepth 100000 in
set_option maxHeartbeats 8000000 in
theorem BRules_lad {Q0 : Exit → Act → World → Prop} {c0 c1 c2 c4 c5 c6 c7 c13 c14 c15 c16 c17 c18 c19 c20 c21 c22 c23 c24 c25 c26 c27 c28 c29 c30 c31 c32 c33 c34 c35 c36 c37 c38 c39 c40 c41 c42 c43 c44 c45 c46 c47 c48 c49 c50 c51 c52 c53 c54 c55 c56 c57 c58 c59 c60 c61 c62 c63 c64 c65 c66 c67 c68 c69 c70 c71 c72 c73 c74 c75 c76 c77 c78 c79 c80 c81 c82 c83 c84 c85 c86 c87 c88 c89 c90 c91 c92 c93 c94 c95 c96 c97 c98 c99 c100 c101 c102 c103 c104 c105 c106 c107 c108 c109 c110 c111 c112 c113 c114 c115 c116 c117 c118 c119 c120 c121 c122 c123 c124 c125 c126 c127 c128 c129 c130 c131 c132 c133 c134 c135 c136 c137 c138 c139 c140 c141 c142 c143 c144 c145 c146 c147 c148 c149 c150 c151 c152 c153 c154 c155 c156 c157 c158 c159 c160 c161 c162 c163 c164 c165 c166 c167 c168 c169 c170 c171 c172 c173 c174 c175 c176 c177 c178 c179 c180 c181 c182 c183 c184 c185 c186 c187 c188 c189 c190 c191 c192 c193 c194 c195 c196 c197 c198 c199 c200 c201 c202 c203 c204 c205 c206 c207 c208 c209 c210 c211 c212 c213 c214 c215 c216 c217 c218 c219 c220 c221 c222 c223 c224 c225 c226 c227 c228 c229 c230 c231 c232 c233 c234 c235 c236 c237 c238 c239 c240 c241 c242 c243 c244 c245 c246 c247 c248 c249 c250 : Value} {B b i s N nl cap3 : Nat} {G : Nat → Prop} {L0 : List Or} {D : List Lv} {A3 : Option Addr} {w3 : World} (hK3 : Hid (BK B b G L0 w3)) (hlk : Hid (LOk L0)) (hP : Hid (Ru i L0)) (hcb : Hid (∀ j, 0 ≤ cntO L0 (s : Int) j ∧ cntO L0 (s : Int) j ≤ 250 ∧ D.length ≤ 250)) (hNe : Hid ((N : Int) = upN L0 s)) (eD : Hid (ladO L0 (s : Int) = D)) (enl : Hid (D.length = nl)) (hv3 : Hid (HV fL w3 A3 nl D)) (hs12 : s = 1 ∨ s = 2) (hN : N ≤ 250) (y1 : nl ≤ cap3) (y2 : cap3 ≤ 9223372036854775807) (hnl : nl ≤ 250)
    (hX : Hid (∀ (u2 u13 u14 u15 u97 u98 u99 u100 u101 u102 u103 u104 u105 u106 u107 u108 u109 u110 u111 u112 u113 u114 u115 u116 u117 u118 u119 u120 u121 u122 u123 u124 u125 u126 u127 u128 u129 u130 u131 u132 u133 u134 u135 u136 u137 u138 u139 u140 u141 u142 u143 u144 u145 u146 u147 u148 u149 u150 u151 u152 u153 u154 u155 u156 u157 u158 u159 u160 u161 u162 u163 u164 u165 u166 u167 u168 u169 u170 u171 u172 u173 u174 u175 u176 u177 u178 u179 u180 u181 u182 u183 u184 u185 u186 u187 u188 u189 u190 u191 u192 u193 u194 u195 u196 u197 u198 u199 u200 u201 u202 u203 u204 u205 u206 u207 u208 u209 u210 u211 u212 u213 u214 u215 u216 u217 u218 u219 u220 u221 u222 u223 u224 u225 u226 u227 u228 u229 u230 u231 u232 u233 u234 : Value) (T N3 : Nat) (w4 : World), T ≤ 1 → N3 ≤ 500 → Hid ((N3 : Int) = upN L0 s + cntO L0 (s : Int) nl) → Hid (Below w3.heap.size w3 w4) → Q0 (.exit 4) ⟨List.toArray (c0 :: c1 :: u2 :: .pointer (some ⟨b, 0, none⟩) :: c4 :: c5 :: c6 :: c7 :: .int .i64 (N3 : Int) :: .int .i64 (s : Int) :: .slice A3 nl cap3 :: .int .i64 (T : Int) :: .int .i64 (nl : Int) :: u13 :: u14 :: u15 :: c16 :: c17 :: c18 :: c19 :: c20 :: c21 :: c22 :: c23 :: c24 :: c25 :: c26 :: c27 :: c28 :: c29 :: c30 :: c31 :: c32 :: c33 :: c34 :: c35 :: c36 :: c37 :: c38 :: c39 :: c40 :: c41 :: c42 :: c43 :: c44 :: c45 :: c46 :: c47 :: c48 :: c49 :: c50 :: c51 :: c52 :: c53 :: c54 :: c55 :: c56 :: c57 :: c58 :: c59 :: c60 :: c61 :: c62 :: c63 :: c64 :: c65 :: c66 :: c67 :: c68 :: c69 :: c70 :: c71 :: c72 :: c73 :: c74 :: c75 :: c76 :: c77 :: c78 :: c79 :: c80 :: c81 :: c82 :: c83 :: c84 :: c85 :: c86 :: c87 :: c88 :: c89 :: c90 :: c91 :: c92 :: c93 :: c94 :: c95 :: c96 :: u97 :: u98 :: u99 :: u100 :: u101 :: u102 :: u103 :: u104 :: u105 :: u106 :: u107 :: u108 :: u109 :: u110 :: u111 :: u112 :: u113 :: u114 :: u115 :: u116 :: u117 :: u118 :: u119 :: u120 :: u121 :: u122 :: u123 :: u124 :: u125 :: u126 :: u127 :: u128 :: u129 :: u130 :: u131 :: u132 :: u133 :: u134 :: u135 :: u136 :: u137 :: u138 :: u139 :: u140 :: u141 :: u142 :: u143 :: u144 :: u145 :: u146 :: u147 :: u148 :: u149 :: u150 :: u151 :: u152 :: u153 :: u154 :: u155 :: u156 :: u157 :: u158 :: u159 :: u160 :: u161 :: u162 :: u163 :: u164 :: u165 :: u166 :: u167 :: u168 :: u169 :: u170 :: u171 :: u172 :: u173 :: u174 :: u175 :: u176 :: u177 :: u178 :: u179 :: u180 :: u181 :: u182 :: u183 :: u184 :: u185 :: u186 :: u187 :: u188 :: u189 :: u190 :: u191 :: u192 :: u193 :: u194 :: u195 :: u196 :: u197 :: u198 :: u199 :: u200 :: u201 :: u202 :: u203 :: u204 :: u205 :: u206 :: u207 :: u208 :: u209 :: u210 :: u211 :: u212 :: u213 :: u214 :: u215 :: u216 :: u217 :: u218 :: u219 :: u220 :: u221 :: u222 :: u223 :: u224 :: u225 :: u226 :: u227 :: u228 :: u229 :: u230 :: u231 :: u232 :: u233 :: u234 :: c235 :: c236 :: c237 :: c238 :: c239 :: c240 :: c241 :: c242 :: c243 :: c244 :: c245 :: c246 :: c247 :: c248 :: c249 :: c250 :: []), []⟩ w4)) :
    Code.wp Try.prog (.loop bdLad) Q0 ⟨List.toArray (c0 :: c1 :: c2 :: .pointer (some ⟨b, 0, none⟩) :: c4 :: c5 :: c6 :: c7 :: .int .i64 (N : Int) :: .int .i64 (s : Int) :: .slice A3 nl cap3 :: .int .i64 0 :: .int .i64 0 :: c13 :: c14 :: c15 :: c16 :: c17 :: c18 :: c19 :: c20 :: c21 :: c22 :: c23 :: c24 :: c25 :: c26 :: c27 :: c28 :: c29 :: c30 :: c31 :: c32 :: c33 :: c34 :: c35 :: c36 :: c37 :: c38 :: c39 :: c40 :: c41 :: c42 :: c43 :: c44 :: c45 :: c46 :: c47 :: c48 :: c49 :: c50 :: c51 :: c52 :: c53 :: c54 :: c55 :: c56 :: c57 :: c58 :: c59 :: c60 :: c61 :: c62 :: c63 :: c64 :: c65 :: c66 :: c67 :: c68 :: c69 :: c70 :: c71 :: c72 :: c73 :: c74 :: c75 :: c76 :: c77 :: c78 :: c79 :: c80 :: c81 :: c82 :: c83 :: c84 :: c85 :: c86 :: c87 :: c88 :: c89 :: c90 :: c91 :: c92 :: c93 :: c94 :: c95 :: c96 :: c97 :: c98 :: c99 :: c100 :: c101 :: c102 :: c103 :: c104 :: c105 :: c106 :: c107 :: c108 :: c109 :: c110 :: c111 :: c112 :: c113 :: c114 :: c115 :: c116 :: c117 :: c118 :: c119 :: c120 :: c121 :: c122 :: c123 :: c124 :: c125 :: c126 :: c127 :: c128 :: c129 :: c130 :: c131 :: c132 :: c133 :: c134 :: c135 :: c136 :: c137 :: c138 :: c139 :: c140 :: c141 :: c142 :: c143 :: c144 :: c145 :: c146 :: c147 :: c148 :: c149 :: c150 :: c151 :: c152 :: c153 :: c154 :: c155 :: c156 :: c157 :: c158 :: c159 :: c160 :: c161 :: c162 :: c163 :: c164 :: c165 :: c166 :: c167 :: c168 :: c169 :: c170 :: c171 :: c172 :: c173 :: c174 :: c175 :: c176 :: c177 :: c178 :: c179 :: c180 :: c181 :: c182 :: c183 :: c184 :: c185 :: c186 :: c187 :: c188 :: c189 :: c190 :: c191 :: c192 :: c193 :: c194 :: c195 :: c196 :: c197 :: c198 :: c199 :: c200 :: c201 :: c202 :: c203 :: c204 :: c205 :: c206 :: c207 :: c208 :: c209 :: c210 :: c211 :: c212 :: c213 :: c214 :: c215 :: c216 :: c217 :: c218 :: c219 :: c220 :: c221 :: c222 :: c223 :: c224 :: c225 :: c226 :: c227 :: c228 :: c229 :: c230 :: c231 :: c232 :: c233 :: c234 :: c235 :: c236 :: c237 :: c238 :: c239 :: c240 :: c241 :: c242 :: c243 :: c244 :: c245 :: c246 :: c247 :: c248 :: c249 :: c250 :: []), []⟩ w3 := by
  conv => arg 2; arg 1; whnf
  go_loopw [8, 11, 12] (fun nv tv iv wr => ∃ (j T N3 : Nat), nv = .int .i64 N3 ∧ tv = .int .i64 T ∧ iv = .int .i64 j ∧ j ≤ nl ∧ T ≤ 1 ∧ Hid (j = 0 → T = 0) ∧ N3 ≤ 500 ∧ Hid ((N3 : Int) = upN L0 s + cntO L0 (s : Int) j) ∧ Hid (Below w3.heap.size w3 wr)) (fun _ _ iv _ => (nl - intOf iv).toNat)
  case atStart => exact ⟨0, 0, N, rfl, rfl, rfl, by omega, by omega, Lib.hid (fun _ => rfl), by omega, Lib.hid (by rw [cnt_zero, hNe.out]; omega), Lib.hid (Below.refl _ _)⟩
  case round =>
    rename World => w4
    obtain ⟨j, T, N3, rfl, rfl, rfl, hj, hT, hT0, hN3, hNe3, hB4⟩ := hrel
    have hK4 := Lib.hid (hK3.out.below hB4.out)
    by_cases hlt : j < nl
    · have g1 : decide ((j : Int) < (nl : Int)) = true := decide_eq_true (by omega)
      have g2 : (j : Int) < (nl : Int) := by omega
      have g3 : decide (j < nl) = true := decide_eq_true hlt
      obtain ⟨y, hy⟩ : ∃ y, D[j]? = some y := ⟨_, List.getElem?_eq_getElem (by rw [enl.out]; exact hlt)⟩
      obtain ⟨yb, yo, rfl, u0, u1, u2⟩ := (hv3.out.below hB4.out).atL hy
      have hy' : Hid ((ladO L0 (s : Int))[j]? = some y) := Lib.hid (by rw [eD.out]; exact hy)
      have hye := Lib.hid ((lad_is hlk.out (s : Int)).each y (List.mem_of_getElem? hy'.out))
      obtain ⟨yp, yn, yc⟩ := y
      simp only at u0 u1 u2
      replace hy := Lib.hid hy
      have hcb1 := hcb.out j
      have hsb : Hid (Below w4.heap.size w4 w4) := Lib.hid (Below.refl _ _)
      go_upto_region 22 with (fail)
      go_cut [140] from 103 to 140 (fun cv wx => cv = .bool false ∧ Hid (Below w4.heap.size w4 wx))
      case first =>
        rcases Nat.eq_zero_or_pos j with hj0 | hj0
        · have q1 : decide ((0 : Int) < (j : Int)) = false := decide_eq_false (by omega)
          have q2 : decide (0 < j) = false := decide_eq_false (by omega)
          have q3 : ¬ 0 < j := by omega
          replace hj0 := Lib.hid hj0
          clear u0 u1 u2
          go_quiet (fail)
          go_wp2_with fail
          go_meet
          exact ⟨rfl, Lib.hid (below_drewN0 hsb.out _)⟩
        · obtain ⟨j1, rfl⟩ : ∃ j1, j = j1 + 1 := ⟨j - 1, by omega⟩
          obtain ⟨z, hz⟩ : ∃ z, D[j1]? = some z := ⟨_, List.getElem?_eq_getElem (by rw [enl.out]; omega)⟩
          obtain ⟨zb, zo, ez, z0, -, -⟩ := (hv3.out.below hB4.out).atL hz
          injection ez with ez
          injection ez with ez1 ez2
          subst ez1
          subst ez2
          have hbt := lad_next hlk.out (s := (s : Int)) (y := z) (by rw [eD.out]; exact hz) hy'.out
          obtain ⟨zp, zn, zc⟩ := z
          simp only at z0 hbt
          replace hz := Lib.hid hz
          have q1 : decide ((0 : Int) < ((j1 + 1 : Nat) : Int)) = true := decide_eq_true (by omega)
          have q2 : IntKind.i64.wrap (((j1 + 1 : Nat) : Int) - 1) = (j1 : Int) := by rw [show (((j1 + 1 : Nat) : Int) - 1) = (j1 : Int) by omega]; exact IntWalk.i64_in _ (by omega)
          have q3 : (j1 : Int) < (nl : Int) := by omega
          have q4 : j1 < nl := by omega
          have q5 : ((j1 + 1 : Nat) : Int) - 1 = (j1 : Int) := by omega
          clear u1 u2
          rcases hs12 with rfl | rfl
          · have hbt' : yp < zp := by have h0 := hbt; rw [show (((1 : Nat) : Int)) = 1 from rfl, bet_one] at h0; exact of_decide_eq_true h0
            have r1 : decide (zp ≤ yp) = false := decide_eq_false (by omega)
            replace hbt := Lib.hid hbt
            go_quiet (fail)
            go_wp2_with fail
            go_meet
            exact ⟨rfl, Lib.hid (below_drewN0 hsb.out _)⟩
          · have hbt' : zp < yp := by have h0 := hbt; rw [bet_two _ _ (by decide)] at h0; exact of_decide_eq_true h0
            have r1 : decide (yp ≤ zp) = false := decide_eq_false (by omega)
            have r2 : decide (zp ≥ yp) = false := decide_eq_false (by omega)
            replace hbt := Lib.hid hbt
            go_quiet (fail)
            go_wp2_with fail
            go_meet
            exact ⟨rfl, Lib.hid (below_drewN0 hsb.out _)⟩
      case rest =>
        obtain ⟨rfl, hC⟩ := hcut
        rename World => w5
        obtain ⟨yb', yo', ez, u0, u1, u2⟩ := (hv3.out.below (hB4.out.trans (hC.out.mono hB4.out.size))).atL hy.out
        injection ez with ez
        injection ez with ez1 ez2
        subst ez1
        subst ez2
        simp only at u0 u1 u2
        have hK5 := Lib.hid (hK4.out.below hC.out)
        have HAt := Lib.hid (BAt_any B b G L0 (s : Int) yp w5 hK5)
        have hsb := fun k => at_sum_bd hlk.out (s : Int) yp k
        have hyn := hye.out.1
        have hyc := hye.out.2.1
        have hyl := at_len hlk.out (s : Int) yp
        have hy0 := List.length_pos_iff.2 hye.out.2.2
        have haf : Hid (∀ x ∈ atO L0 (s : Int) yp, x.s = (s : Int) ∧ x.p = yp ∧ 1 ≤ x.n ∧ x.n ≤ 1000000) := Lib.hid (fun x hx => by
          obtain ⟨m1, m2, m3⟩ := at_mem hx
          have := hlk.out.fit x m1
          exact ⟨m2, m3, this.2.1, this.2.2.1⟩)
        have hat : Hid (∀ (k : Nat) (x : Or), (atO L0 (s : Int) yp)[k]? = some x → x.t = true → j = 0 ∧ k = 0) := Lib.hid (fun k x hx ht => at_top hlk.out hy'.out hx ht)
        have hai : Hid (∀ (k : Nat) (x z : Or), (atO L0 (s : Int) yp)[k]? = some x → (atO L0 (s : Int) yp)[k + 1]? = some z → x.i < z.i) := Lib.hid (fun k x z hx hz => at_next_i hP.out hx hz)
        simp only at hyn hyc hy0
        obtain ⟨E, eE⟩ : ∃ E, atO L0 (s : Int) yp = E := ⟨_, rfl⟩
        rw [eE] at HAt hsb hyn hyc hyl hy0 haf hat hai
        obtain ⟨nk, enk⟩ : ∃ k, E.length = k := ⟨_, rfl⟩
        rw [enk] at hyc hyl hy0
        replace eE := Lib.hid eE
        replace hsb := Lib.hid hsb
        replace hyn := Lib.hid hyn
        subst hyc
        go_wp2_with fail
        refine HAt.out.mono ?_
        rintro e w6 ⟨v6, rfl, O6, b6⟩
        obtain ⟨A6, cap6, rfl, hv6, t1, t2, t3, t4⟩ := O6.slice
        rw [enk] at t1 hv6 ⊢
        have b56 := Lib.hid (hC.out.trans (b6.mono hC.out.size))
        replace hv6 := Lib.hid hv6
        replace enk := Lib.hid enk
        clear O6 t3 t4 HAt b6 u0 u1 u2
        go_wp2_with fail
        go_loopw [11, 14, 15] (fun tv uv kv wr => ∃ (k T4 : Nat) (u : Int), tv = .int .i64 T4 ∧ uv = .int .i64 u ∧ kv = .int .i64 k ∧ k ≤ nk ∧ T4 ≤ 1 ∧ (j = 0 → k = 0 → T4 = 0) ∧ 0 ≤ u ∧ u ≤ 250000000 ∧ Hid (u = sumO (E.take k)) ∧ Hid (Below w6.heap.size w6 wr)) (fun _ _ kv _ => (nk - intOf kv).toNat)
        case atStart => exact ⟨0, T, 0, rfl, rfl, rfl, by omega, hT, fun h _ => hT0.out h, by omega, by omega, Lib.hid (by simp [sumO]), Lib.hid (Below.refl _ _)⟩
        case round =>
          rename World => w7
          obtain ⟨k, T4, u, rfl, rfl, rfl, hk, hT4, hT40, hu1, hu2, hue, hB7⟩ := hrel
          by_cases hkl : k < nk
          · have f3 : decide ((k : Int) < (nk : Int)) = true := decide_eq_true (by omega)
            have f4 : (k : Int) < (nk : Int) := by omega
            have f5 : decide (k < nk) = true := decide_eq_true hkl
            obtain ⟨x, hx⟩ : ∃ x, E[k]? = some x := ⟨_, List.getElem?_eq_getElem (by rw [enk.out]; exact hkl)⟩
            obtain ⟨xb, xo, rfl, c0, c1, c2, c3, c4⟩ := (hv6.out.below hB7.out).atO hx
            obtain ⟨m1, m2, m3, m4⟩ := haf.out x (List.mem_of_getElem? hx)
            have hsx : Hid (u + x.n = sumO (E.take (k + 1))) := Lib.hid (by rw [sumO_take hx, hue.out])
            have hsbk := hsb.out (k + 1)
            have hsn := hsx.out
            obtain ⟨xi, xs, xp, xn, xt⟩ := x
            simp only at c0 c1 c2 c3 c4 m1 m2 m3 m4 hsx hsn
            rw [← hsn] at hsbk
            clear hsn
            obtain ⟨h1, h2⟩ := hsbk
            subst m1
            subst m2
            have hw1 : IntKind.i64.wrap (u + xn) = u + xn := IntWalk.i64_in _ (by omega)
            have hxt := hat.out k _ hx
            simp only at hxt
            replace hxt := Lib.hid hxt
            replace hx := Lib.hid hx
            have hsb7 : Hid (Below w7.heap.size w7 w7) := Lib.hid (Below.refl _ _)
            go_upto_region 30 with (fail)
            go_cut [199] from 162 to 199 (fun cv wx => cv = .bool false ∧ Hid (Below w7.heap.size w7 wx))
            case first =>
              obtain ⟨yb', yo', ez, u0, u1, u2⟩ := (hv3.out.below (hB4.out.trans ((b56.out.trans (hB7.out.mono b56.out.size)).mono hB4.out.size))).atL hy.out
              injection ez with ez
              injection ez with ez1 ez2
              subst ez1
              subst ez2
              simp only at u0 u1 u2
              have n1 : ((s : Int) != (s : Int)) = false := by simp
              have n2 : (xp != xp) = false := by simp
              clear u1 u2
              rcases Nat.eq_zero_or_pos k with rfl | hk0
              · have q1 : decide ((0 : Int) < ((0 : Nat) : Int)) = false := by simp
                go_quiet (fail)
                go_wp2_with fail
                go_meet
                exact ⟨rfl, Lib.hid (below_drewN0 hsb7.out _)⟩
              · obtain ⟨k1, rfl⟩ : ∃ k1, k = k1 + 1 := ⟨k - 1, by omega⟩
                obtain ⟨z, hz⟩ : ∃ z, E[k1]? = some z := ⟨_, List.getElem?_eq_getElem (by rw [enk.out]; omega)⟩
                obtain ⟨zb, zo, ez, z0, -, -, -, -⟩ := (hv6.out.below hB7.out).atO hz
                injection ez with ez
                injection ez with ez1 ez2
                subst ez1
                subst ez2
                have hbt := hai.out k1 z _ hz hx.out
                obtain ⟨zi, zs, zp, zn, zt⟩ := z
                simp only at z0 hbt
                replace hz := Lib.hid hz
                have q1 : decide ((0 : Int) < ((k1 + 1 : Nat) : Int)) = true := decide_eq_true (by omega)
                have q2 : IntKind.i64.wrap (((k1 + 1 : Nat) : Int) - 1) = (k1 : Int) := by rw [show (((k1 + 1 : Nat) : Int) - 1) = (k1 : Int) by omega]; exact IntWalk.i64_in _ (by omega)
                have q3 : (k1 : Int) < (nk : Int) := by omega
                have q4 : k1 < nk := by omega
                have q5 : ((k1 + 1 : Nat) : Int) - 1 = (k1 : Int) := by omega
                have r1 : decide (xi ≤ zi) = false := decide_eq_false (by omega)
                go_quiet (fail)
                go_wp2_with fail
                go_meet
                exact ⟨rfl, Lib.hid (below_drewN0 hsb7.out _)⟩
            case rest =>
              obtain ⟨rfl, hC7⟩ := hcut
              rename World => w8
              have hB8 := Lib.hid (hB7.out.trans (hC7.out.mono hB7.out.size))
              obtain ⟨xb', xo', ez, -, -, -, -, v4⟩ := (hv6.out.below hB8.out).atO hx.out
              injection ez with ez
              injection ez with ez1 ez2
              subst ez1
              subst ez2
              simp only at v4
              clear c0 c1 c2 c3 c4
              cases xt with
              | false =>
                go_wp2_with fail
                go_roundw
                case rel => exact ⟨k + 1, T4, u + xn, rfl, rfl, by go_num, by omega, hT4, (fun _ h => by omega), h1, h2, hsx, hB8⟩
                case measure => simp [intOf]; omega
              | true =>
                obtain ⟨rfl, rfl⟩ := hxt.out rfl
                obtain rfl : T4 = 0 := hT40 rfl rfl
                have q1 : decide ((0 : Int) < ((0 : Nat) : Int)) = false := by simp
                go_wp2_with fail
                go_roundw
                case rel => exact ⟨1, 1, u + xn, rfl, rfl, rfl, by omega, by omega, (fun _ h => by omega), h1, h2, hsx, hB8⟩
                case measure => simp [intOf]; omega
          · obtain rfl : k = nk := by omega
            have f3 : decide ((k : Int) < (k : Int)) = false := by simp
            have f5 : decide (k < k) = false := by simp
            obtain ⟨yb', yo', ez, u0, u1, u2⟩ := (hv3.out.below (hB4.out.trans ((b56.out.trans (hB7.out.mono b56.out.size)).mono hB4.out.size))).atL hy.out
            injection ez with ez
            injection ez with ez1 ez2
            subst ez1
            subst ez2
            simp only at u0 u1 u2
            obtain rfl : u = yn := by rw [hue.out, hyn.out, List.take_of_length_le (by rw [enk.out]; omega)]
            have f6 : (u != u) = false := by simp
            have f7 : ((k : Int) != (k : Int)) = false := by simp
            have f8 : ((k : Int) == 0) = false := by simp; omega
            have f9 : (k == 0) = false := by simp; omega
            have hNn : Hid (((N3 + k : Nat) : Int) = upN L0 s + cntO L0 (s : Int) (j + 1)) := Lib.hid (by rw [cnt_next hy'.out]; push_cast; rw [hNe3.out]; show _ = upN L0 s + (cntO L0 (s : Int) j + (k : Int)); omega)
            have hNb : N3 + k ≤ 500 := by
              have h1 := (upN_bd hlk.out s).2
              have h2 := (hcb.out (j + 1)).2.1
              have h3 := hNn.out
              omega
            have hB8 := Lib.hid (hB4.out.trans ((b56.out.trans (hB7.out.mono b56.out.size)).mono hB4.out.size))
            have hT5 : Hid (j + 1 = 0 → T4 = 0) := Lib.hid (fun h => by omega)
            replace hue := Lib.hid hue
            clear hyn
            go_wp2_with fail
            go_roundw
            case rel => exact ⟨j + 1, T4, N3 + k, by go_num, rfl, by go_num, by omega, hT4, hT5, hNb, hNn, hB8⟩
            case measure => simp [intOf]; omega
    · obtain rfl : j = nl := by omega
      have g1 : decide ((j : Int) < (j : Int)) = false := by simp
      have g3 : decide (j < j) = false := by simp
      go_wp2_with fail
      exact hX.out _ _ _ _ _ _ _ _ _ _ _ _ _ _ _ _ _ _ _ _ _ _ _ _ _ _ _ _ _ _ _ _ _ _ _ _ _ _ _ _ _ _ _ _ _ _ _ _ _ _ _ _ _ _ _ _ _ _ _ _ _ _ _ _ _ _ _ _ _ _ _ _ _ _ _ _ _ _ _ _ _ _ _ _ _ _ _ _ _ _ _ _ _ _ _ _ _ _ _ _ _ _ _ _ _ _ _ _ _ _ _ _ _ _ _ _ _ _ _ _ _ _ _ _ _ _ _ _ _ _ _ _ _ _ _ _ _ _ _ _ _ _ T N3 _ hT hN3 hNe3 hB4
set_option maxRecDepth 100000 in
set_option maxHeartbeats 8000000 in
theorem BRules_walk (A : Option Addr) (n cap : Nat) (L : List Ask) (w : World) (hA : Hid (HK w A n L)) (hAt : Hid (∀ ad, A = some ad → ad.block < w.heap.size)) (hO : Hid (OkK L)) (p1 : n ≤ cap) (p2 : cap ≤ 9223372036854775807) :
    Calls Try.prog 6 #[.slice A n cap] w fun e w' => e = .returned (.bool true) ∧ Below w.heap.size w w' := by
  have HN := Lib.hid (BNew_any w)
  obtain ⟨B, eB⟩ : ∃ B, w.heap.size = B := ⟨_, rfl⟩
  unfold NewBK at HN
  rw [eB] at HN hAt ⊢
  replace eB := Lib.hid eB
  go_enter Try.func6, Try.ntmps6
  go_wp2_with fail
  refine HN.out.mono ?_
  rintro e w1 ⟨b, G, rfl, a1, b1⟩
  replace a1 := Lib.hid a1
  replace b1 := Lib.hid b1
  have r1 : Hid (Ru 0 []) := Lib.hid ⟨fun x hx => (by cases hx), List.Pairwise.nil⟩
  go_wp2_with fail
  go_loopw [4] (fun iv wr => ∃ (i : Nat) (G : Nat → Prop) (L0 : List Or), iv = .int .i64 i ∧ i ≤ n ∧ i ≤ 60 ∧ Hid (BK B b G L0 wr) ∧ Hid (Ru i L0) ∧ Hid (Below B w wr)) (fun iv _ => (60 - intOf iv).toNat)
  case atStart => exact ⟨0, G, [], rfl, by omega, by omega, a1, r1, b1⟩
  case round =>
    clear a1 b1 r1
    rename World => wo
    obtain ⟨i, G, L0, rfl, hi1, hi2, hK, hP, hB⟩ := hrel
    by_cases hc : i < n ∧ i < 60
    · obtain ⟨c1, c2⟩ := hc
      have d1 : decide ((i : Int) < (n : Int)) = true := decide_eq_true (by omega)
      have d1' : decide (i < n) = true := decide_eq_true c1
      have d2 : decide ((i : Int) < 60) = true := decide_eq_true (by omega)
      have d3 : (i : Int) < (n : Int) := by omega
      obtain ⟨x, hx⟩ : ∃ x, L[i]? = some x := ⟨_, List.getElem?_eq_getElem (by rw [hA.out.1]; exact c1)⟩
      obtain ⟨xk, xs, xi, xp, xn⟩ := hO.out x (List.mem_of_getElem? hx)
      have hKX := hA.out.belowB hAt.out hB.out
      obtain ⟨ob, off, rfl, e0, e1, e2, e3, e4⟩ := hKX.2 i x hx
      obtain ⟨kk, s0, ii, p0, m⟩ := x
      simp only at xk xs xi xp xn e0 e1 e2 e3 e4
      replace hx := Lib.hid hx
      have HW1 := Within_any s0 1 wo (by omega) xs.1 xs.2
      have HW2 := Within_any p0 6 wo.drew (by omega) xp.1 xp.2
      have HW3 := Within_any m 9 wo.drew (by omega) xn.1 xn.2
      have hk1 := withinN_le s0 1
      have hk2 := withinN_le p0 6
      have hk3 := withinN_le m 9
      obtain ⟨k1, ek1⟩ : ∃ k, withinN s0 1 = k := ⟨_, rfl⟩
      obtain ⟨k2, ek2⟩ : ∃ k, withinN p0 6 = k := ⟨_, rfl⟩
      obtain ⟨k3, ek3⟩ : ∃ k, withinN m 9 = k := ⟨_, rfl⟩
      rw [ek1] at HW1 hk1
      rw [ek2] at HW2 hk2
      rw [ek3] at HW3 hk3
      replace HW1 := Lib.hid HW1
      replace HW2 := Lib.hid HW2
      replace HW3 := Lib.hid HW3
      have hKd : Hid (BK B b G L0 wo.drew) := Lib.hid (hK.out.below ⟨rfl, rfl, rfl, Nat.le_refl _, fun _ _ => rfl⟩)
      have hBd : Hid (Below B w wo.drew) := Lib.hid ⟨hB.out.os, hB.out.tape, hB.out.output, hB.out.size, hB.out.block⟩
      have hRu := Lib.hid (hP.out.add hK.out.lok (1 + (k1 : Int)) (k2 : Int) (1 + (k3 : Int)))
      have HAd := BAdd_any B b G L0 (i : Int) (1 + (k1 : Int)) (k2 : Int) (1 + (k3 : Int)) wo.drew hKd (Lib.hid ⟨by omega, by omega⟩) (Lib.hid ⟨by omega, by omega⟩)
      obtain ⟨⟨f1, L1⟩, ef⟩ : ∃ q, addO L0 (i : Int) (1 + (k1 : Int)) (k2 : Int) (1 + (k3 : Int)) = q := ⟨_, rfl⟩
      rw [ef] at HAd
      replace hRu := hRu.out
      rw [ef] at hRu
      replace hRu := Lib.hid hRu
      replace HAd := Lib.hid HAd
      have z0 : (fun W : World => W.cell? ⟨ob, off + i * 5 + 3, none⟩ = some (.int .i64 p0) ∧ W.cell? ⟨ob, off + i * 5 + 4, none⟩ = some (.int .i64 m)) wo.drew := ⟨e3, e4⟩
      simp only at z0
      have LL : Hid (∀ (w1 : World) (G3 : Nat → Prop), BK B b G3 L1 w1 → Only G wo.drew w1 → (fun W : World => W.cell? ⟨ob, off + i * 5 + 3, none⟩ = some (.int .i64 p0) ∧ W.cell? ⟨ob, off + i * 5 + 4, none⟩ = some (.int .i64 m)) w1 ∧ Below B w w1) := Lib.hid (fun w1 G3 hk o => by
        have b2 := hBd.out.trans (hKd.out.mine o)
        obtain ⟨b', o', eo, -, -, -, c3, c4⟩ := (hA.out.belowB hAt.out b2).2 i _ hx.out
        injection eo with eo
        injection eo with eo1 eo2
        subst eo1; subst eo2
        exact ⟨⟨c3, c4⟩, b2⟩)
      replace ef := Lib.hid ef
      replace hKX := Lib.hid hKX
      have hii : Hid (I64 ii ∧ I64 m) := Lib.hid ⟨xi, xn⟩
      clear ek1 ek2 ek3 xk xs xi xp xn hK hB
      go_wp2_with fail
      refine HW1.out.mono ?_
      rintro e wq ⟨rfl, ew⟩
      obtain rfl := ew.symm
      clear e0 e1 e2
      go_upto_region 8 with (fail)
      refine wp_region_held_drew (S := (fun W : World => W.cell? ⟨ob, off + i * 5 + 3, none⟩ = some (.int .i64 p0) ∧ W.cell? ⟨ob, off + i * 5 + 4, none⟩ = some (.int .i64 m))) (by kernel_rfl) z0 (fun hHeld => ?_)
      refine wpAnyH_take (i := 0) (v := .pointer (some ⟨b, 0, none⟩)) rfl (by kernel_rfl) (by kernel_rfl) (by kernel_rfl) (fun _ _ _ h => h) (Or.inl ⟨by kernel_rfl, fun W hSw => ?_⟩) (by assumption) ?_
      · (try dsimp only at hSw)
        go_simp
      (try simp only [Act.put, List.setIfInBounds_toArray, List.set_cons_zero, List.set_cons_succ])
      refine wpAnyH_take (i := 1) (v := .int .i64 (i : Int)) rfl (by kernel_rfl) (by kernel_rfl) (by kernel_rfl) (fun _ _ _ h => h) (Or.inl ⟨by kernel_rfl, fun W hSw => ?_⟩) (by assumption) ?_
      · (try dsimp only at hSw)
        go_simp
      (try simp only [Act.put, List.setIfInBounds_toArray, List.set_cons_zero, List.set_cons_succ])
      refine wpAnyH_take (i := 2) (v := .int .i64 (1 + (k1 : Int))) rfl (by kernel_rfl) (by kernel_rfl) (by kernel_rfl) (fun _ _ _ h => h) (Or.inl ⟨by kernel_rfl, fun W hSw => ?_⟩) (by assumption) ?_
      · (try dsimp only at hSw)
        go_simp
      (try simp only [Act.put, List.setIfInBounds_toArray, List.set_cons_zero, List.set_cons_succ])
      refine wpAnyH_take (i := 3) (v := .slice (some ⟨ob, off, none⟩) n cap) rfl (by kernel_rfl) (by kernel_rfl) (by kernel_rfl) (fun _ _ _ h => h) (Or.inl ⟨by kernel_rfl, fun W hSw => ?_⟩) (by assumption) ?_
      · (try dsimp only at hSw)
        go_simp
      (try simp only [Act.put, List.setIfInBounds_toArray, List.set_cons_zero, List.set_cons_succ])
      refine wpAnyH_take (i := 4) (v := .int .i64 (i : Int)) rfl (by kernel_rfl) (by kernel_rfl) (by kernel_rfl) (fun _ _ _ h => h) (Or.inl ⟨by kernel_rfl, fun W hSw => ?_⟩) (by assumption) ?_
      · (try dsimp only at hSw)
        go_simp
      (try simp only [Act.put, List.setIfInBounds_toArray, List.set_cons_zero, List.set_cons_succ])
      refine wpAnyH_take (i := 5) (v := .pointer (some ⟨ob, off + i * 5, none⟩)) rfl (by kernel_rfl) (by kernel_rfl) (by kernel_rfl) (fun _ _ _ h => h) (Or.inl ⟨by kernel_rfl, fun W hSw => ?_⟩) (by assumption) ?_
      · (try dsimp only at hSw)
        go_simp
      (try simp only [Act.put, List.setIfInBounds_toArray, List.set_cons_zero, List.set_cons_succ])
      refine wpAnyH_take (i := 6) (v := .pointer (some ⟨ob, off + i * 5 + 3, none⟩)) rfl (by kernel_rfl) (by kernel_rfl) (by kernel_rfl) (fun _ _ _ h => h) (Or.inl ⟨by kernel_rfl, fun W hSw => ?_⟩) (by assumption) ?_
      · (try dsimp only at hSw)
        go_simp
      (try simp only [Act.put, List.setIfInBounds_toArray, List.set_cons_zero, List.set_cons_succ])
      refine wpAnyH_take (i := 7) (v := .int .i64 p0) rfl (by kernel_rfl) (by kernel_rfl) (by kernel_rfl) (fun _ _ _ h => h) (Or.inl ⟨by kernel_rfl, fun W hSw => ?_⟩) (by assumption) ?_
      · (try dsimp only at hSw)
        go_simp
      (try simp only [Act.put, List.setIfInBounds_toArray, List.set_cons_zero, List.set_cons_succ])
      refine wpAnyH_take (i := 9) (v := .slice (some ⟨ob, off, none⟩) n cap) rfl (by kernel_rfl) (by kernel_rfl) (by kernel_rfl) (fun _ _ _ h => h) (Or.inl ⟨by kernel_rfl, fun W hSw => ?_⟩) (by assumption) ?_
      · (try dsimp only at hSw)
        go_simp
      (try simp only [Act.put, List.setIfInBounds_toArray, List.set_cons_zero, List.set_cons_succ])
      refine wpAnyH_take (i := 10) (v := .int .i64 (i : Int)) rfl (by kernel_rfl) (by kernel_rfl) (by kernel_rfl) (fun _ _ _ h => h) (Or.inl ⟨by kernel_rfl, fun W hSw => ?_⟩) (by assumption) ?_
      · (try dsimp only at hSw)
        go_simp
      (try simp only [Act.put, List.setIfInBounds_toArray, List.set_cons_zero, List.set_cons_succ])
      refine wpAnyH_take (i := 11) (v := .pointer (some ⟨ob, off + i * 5, none⟩)) rfl (by kernel_rfl) (by kernel_rfl) (by kernel_rfl) (fun _ _ _ h => h) (Or.inl ⟨by kernel_rfl, fun W hSw => ?_⟩) (by assumption) ?_
      · (try dsimp only at hSw)
        go_simp
      (try simp only [Act.put, List.setIfInBounds_toArray, List.set_cons_zero, List.set_cons_succ])
      refine wpAnyH_take (i := 12) (v := .pointer (some ⟨ob, off + i * 5 + 4, none⟩)) rfl (by kernel_rfl) (by kernel_rfl) (by kernel_rfl) (fun _ _ _ h => h) (Or.inl ⟨by kernel_rfl, fun W hSw => ?_⟩) (by assumption) ?_
      · (try dsimp only at hSw)
        go_simp
      (try simp only [Act.put, List.setIfInBounds_toArray, List.set_cons_zero, List.set_cons_succ])
      refine wpAnyH_take (i := 13) (v := .int .i64 m) rfl (by kernel_rfl) (by kernel_rfl) (by kernel_rfl) (fun _ _ _ h => h) (Or.inl ⟨by kernel_rfl, fun W hSw => ?_⟩) (by assumption) ?_
      · (try dsimp only at hSw)
        go_simp
      (try simp only [Act.put, List.setIfInBounds_toArray, List.set_cons_zero, List.set_cons_succ])
      refine wpAnyH_ready (rs := [8]) (by kernel_rfl) (by simp) ?_
      refine AllReadyH.cons rfl (fun K hK => ?_) AllReadyH.nil
      go_simp
      refine HW2.out.mono ?_
      rintro e wq ⟨rfl, ew⟩
      obtain rfl := ew.symm
      refine hK.out _ _ z0 (fun hHeld => ?_)
      clear hK K
      (try simp only [Act.put, List.setIfInBounds_toArray, List.set_cons_zero, List.set_cons_succ])
      refine wpAnyH_ready (rs := [14]) (by kernel_rfl) (by simp) ?_
      refine AllReadyH.cons rfl (fun K hK => ?_) AllReadyH.nil
      go_simp
      refine HW3.out.mono ?_
      rintro e wq ⟨rfl, ew⟩
      obtain rfl := ew.symm
      refine hK.out _ _ z0 (fun hHeld => ?_)
      clear hK K
      (try simp only [Act.put, List.setIfInBounds_toArray, List.set_cons_zero, List.set_cons_succ])
      refine wpAnyH_take (i := 15) (v := .int .i64 (1 + (k3 : Int))) rfl (by kernel_rfl) (by kernel_rfl) (by kernel_rfl) (fun _ _ _ h => h) (Or.inl ⟨by kernel_rfl, fun W hSw => ?_⟩) (by assumption) ?_
      · (try dsimp only at hSw)
        go_simp
        exact IntWalk.i64_in _ (by omega)
      (try simp only [Act.put, List.setIfInBounds_toArray, List.set_cons_zero, List.set_cons_succ])
      refine wpAnyH_ready (rs := [16]) (by kernel_rfl) (by simp) ?_
      refine AllReadyH.cons rfl (fun K hK => ?_) AllReadyH.nil
      go_simp
      refine HAd.out.mono ?_
      rintro e w1 ⟨G3, rfl, a1, o1, n1⟩
      obtain ⟨z1, m1⟩ := LL.out w1 G3 a1 o1
      replace m1 := Lib.hid m1
      replace a1 := Lib.hid a1
      clear o1 n1
      refine hK.out _ _ z1 (fun hHeld => ?_)
      clear hK K
      (try simp only [Act.put, List.setIfInBounds_toArray, List.set_cons_zero, List.set_cons_succ])
      refine wpAnyH_done (by kernel_rfl) ?_ _
      clear z1 z0 HAd HW2 HW3 hHeld
      obtain ⟨ob', off', eo, x0, -, x2, -, x4⟩ := (hA.out.belowB hAt.out m1.out).2 i _ hx.out
      injection eo with eo
      injection eo with eo1 eo2
      subst eo1
      subst eo2
      simp only at x0 x2 x4
      by_cases hk : kk.tmod 3 = 0
      · have dk : (kk.tmod 3 == 0) = true := by simpa using hk
        replace hk := Lib.hid hk
        have HW4 := Lib.hid (Within_any ii i w1 (by omega) hii.out.1.1 hii.out.1.2)
        have HFd := BFind_any B b G3 L1 ((withinN ii i : Nat) : Int) w1 a1
        have hfc := find_cases L1 ((withinN ii i : Nat) : Int)
        obtain ⟨k4, ek4⟩ : ∃ k, withinN ii i = k := ⟨_, rfl⟩
        rw [ek4] at HW4 HFd hfc
        have hk4 : k4 ≤ i := by rw [← ek4]; exact withinN_le ii i
        replace ek4 := Lib.hid ek4
        rcases hfc with hf0 | ⟨A0, x0', C0, hcut, hf0, hmem, hid⟩
        · rw [hf0] at HFd
          simp only [zeroO, Or.val, Or.cells] at HFd
          replace HFd := Lib.hid HFd
          clear hf0
          go_wp2_with fail
          refine HW4.out.mono ?_
          rintro e wq ⟨rfl, ew⟩
          obtain rfl := ew.symm
          go_wp2_with fail
          refine HFd.out.mono ?_
          rintro e w2 ⟨rfl, b2⟩
          obtain ⟨xb, exb⟩ : ∃ g, w2.heap.size = g := ⟨_, rfl⟩
          obtain ⟨wx, ewx⟩ : ∃ X, w2.alloc (.cells #[.int .i64 0, .int .i64 0, .int .i64 0, .int .i64 0, .bool false] 40) = X := ⟨_, rfl⟩
          have bx : Below w1.heap.size w1 wx := b2.trans (by rw [← ewx]; exact ((Below.refl _ w2).alloc (Nat.le_refl _) _).mono b2.size)
          have hKy : Hid (BK B b G3 L1 wx.drew) := Lib.hid (a1.out.below bx.drew)
          have By : Hid (Below B w wx.drew) := Lib.hid (m1.out.trans (bx.drew.mono a1.out.size))
          replace bx := Lib.hid bx
          replace b2 := Lib.hid b2
          replace ewx := Lib.hid ewx
          replace exb := Lib.hid exb
          go_upto_region 11 with (fail)
          rw [ewx.out, exb.out]
          refine wp_region_held_drew (S := fun _ : World => True) (by kernel_rfl) trivial (fun hHeld => ?_)
          refine wpAnyH_take (i := 0) (v := .bool false) rfl (by kernel_rfl) (by kernel_rfl) (by kernel_rfl) (fun _ _ _ h => h) (Or.inl ⟨by kernel_rfl, fun W hSw => ?_⟩) (by assumption) ?_
          · (try dsimp only at hSw)
            go_simp
          (try simp only [Act.put, List.setIfInBounds_toArray, List.set_cons_zero, List.set_cons_succ])
          refine wpAnyH_take (i := 1) (v := .bool false) rfl (by kernel_rfl) (by kernel_rfl) (by kernel_rfl) (fun _ _ _ h => h) (Or.inl ⟨by kernel_rfl, fun W hSw => ?_⟩) (by assumption) ?_
          · (try dsimp only at hSw)
            go_simp
          (try simp only [Act.put, List.setIfInBounds_toArray, List.set_cons_zero, List.set_cons_succ])
          refine wpAnyH_take (i := 2) (v := undef) rfl (by kernel_rfl) (by kernel_rfl) (by kernel_rfl) (fun _ _ _ h => h) (Or.inr ⟨by kernel_rfl, rfl⟩) (by assumption) ?_
          (try simp only [Act.put, List.setIfInBounds_toArray, List.set_cons_zero, List.set_cons_succ])
          refine wpAnyH_take (i := 3) (v := undef) rfl (by kernel_rfl) (by kernel_rfl) (by kernel_rfl) (fun _ _ _ h => h) (Or.inr ⟨by kernel_rfl, rfl⟩) (by assumption) ?_
          (try simp only [Act.put, List.setIfInBounds_toArray, List.set_cons_zero, List.set_cons_succ])
          refine wpAnyH_take (i := 4) (v := undef) rfl (by kernel_rfl) (by kernel_rfl) (by kernel_rfl) (fun _ _ _ h => h) (Or.inr ⟨by kernel_rfl, rfl⟩) (by assumption) ?_
          (try simp only [Act.put, List.setIfInBounds_toArray, List.set_cons_zero, List.set_cons_succ])
          refine wpAnyH_take (i := 5) (v := undef) rfl (by kernel_rfl) (by kernel_rfl) (by kernel_rfl) (fun _ _ _ h => h) (Or.inr ⟨by kernel_rfl, rfl⟩) (by assumption) ?_
          (try simp only [Act.put, List.setIfInBounds_toArray, List.set_cons_zero, List.set_cons_succ])
          refine wpAnyH_take (i := 6) (v := undef) rfl (by kernel_rfl) (by kernel_rfl) (by kernel_rfl) (fun _ _ _ h => h) (Or.inr ⟨by kernel_rfl, rfl⟩) (by assumption) ?_
          (try simp only [Act.put, List.setIfInBounds_toArray, List.set_cons_zero, List.set_cons_succ])
          refine wpAnyH_take (i := 7) (v := undef) rfl (by kernel_rfl) (by kernel_rfl) (by kernel_rfl) (fun _ _ _ h => h) (Or.inr ⟨by kernel_rfl, rfl⟩) (by assumption) ?_
          (try simp only [Act.put, List.setIfInBounds_toArray, List.set_cons_zero, List.set_cons_succ])
          refine wpAnyH_take (i := 8) (v := undef) rfl (by kernel_rfl) (by kernel_rfl) (by kernel_rfl) (fun _ _ _ h => h) (Or.inr ⟨by kernel_rfl, rfl⟩) (by assumption) ?_
          (try simp only [Act.put, List.setIfInBounds_toArray, List.set_cons_zero, List.set_cons_succ])
          refine wpAnyH_take (i := 9) (v := undef) rfl (by kernel_rfl) (by kernel_rfl) (by kernel_rfl) (fun _ _ _ h => h) (Or.inr ⟨by kernel_rfl, rfl⟩) (by assumption) ?_
          (try simp only [Act.put, List.setIfInBounds_toArray, List.set_cons_zero, List.set_cons_succ])
          refine wpAnyH_take (i := 10) (v := undef) rfl (by kernel_rfl) (by kernel_rfl) (by kernel_rfl) (fun _ _ _ h => h) (Or.inr ⟨by kernel_rfl, rfl⟩) (by assumption) ?_
          (try simp only [Act.put, List.setIfInBounds_toArray, List.set_cons_zero, List.set_cons_succ])
          refine wpAnyH_take (i := 11) (v := undef) rfl (by kernel_rfl) (by kernel_rfl) (by kernel_rfl) (fun _ _ _ h => h) (Or.inr ⟨by kernel_rfl, rfl⟩) (by assumption) ?_
          (try simp only [Act.put, List.setIfInBounds_toArray, List.set_cons_zero, List.set_cons_succ])
          refine wpAnyH_take (i := 12) (v := undef) rfl (by kernel_rfl) (by kernel_rfl) (by kernel_rfl) (fun _ _ _ h => h) (Or.inr ⟨by kernel_rfl, rfl⟩) (by assumption) ?_
          (try simp only [Act.put, List.setIfInBounds_toArray, List.set_cons_zero, List.set_cons_succ])
          refine wpAnyH_ready (rs := [13]) (by kernel_rfl) (by simp) ?_
          refine AllReadyH.cons rfl (fun K hK => ?_) AllReadyH.nil
          go_simp
          refine hK.out _ _ trivial (fun hHeld => ?_)
          clear hK K
          (try simp only [Act.put, List.setIfInBounds_toArray, List.set_cons_zero, List.set_cons_succ])
          refine wpAnyH_take (i := 14) (v := undef) rfl (by kernel_rfl) (by kernel_rfl) (by kernel_rfl) (fun _ _ _ h => h) (Or.inr ⟨by kernel_rfl, rfl⟩) (by assumption) ?_
          (try simp only [Act.put, List.setIfInBounds_toArray, List.set_cons_zero, List.set_cons_succ])
          refine wpAnyH_ready (rs := [15]) (by kernel_rfl) (by simp) ?_
          refine AllReadyH.cons rfl (fun K hK => ?_) AllReadyH.nil
          go_simp
          refine hK.out _ _ trivial (fun hHeld => ?_)
          clear hK K
          (try simp only [Act.put, List.setIfInBounds_toArray, List.set_cons_zero, List.set_cons_succ])
          refine wpAnyH_take (i := 16) (v := undef) rfl (by kernel_rfl) (by kernel_rfl) (by kernel_rfl) (fun _ _ _ h => h) (Or.inr ⟨by kernel_rfl, rfl⟩) (by assumption) ?_
          (try simp only [Act.put, List.setIfInBounds_toArray, List.set_cons_zero, List.set_cons_succ])
          refine wpAnyH_take (i := 17) (v := .bool false) rfl (by kernel_rfl) (by kernel_rfl) (by kernel_rfl) (fun _ _ _ h => h) (Or.inl ⟨by kernel_rfl, fun W hSw => ?_⟩) (by assumption) ?_
          · (try dsimp only at hSw)
            go_simp
          (try simp only [Act.put, List.setIfInBounds_toArray, List.set_cons_zero, List.set_cons_succ])
          refine wpAnyH_done (by kernel_rfl) ?_ _
          go_wp2_with fail
          go_roundw
          case rel => exact ⟨i + 1, G3, L1, by go_num, by omega, by omega, hKy, hRu, By⟩
          case measure => simp [intOf]; omega
        · rw [hf0] at HFd
          obtain ⟨hf1, hf2⟩ := (a1.out.lok.fit x0' hmem).2
          obtain ⟨ei, es, ep, en, et⟩ := x0'
          simp only [Or.val, Or.cells] at HFd
          simp only at hf1 hf2 hid
          obtain ⟨mm, rfl⟩ : ∃ mm : Nat, en = (mm : Int) + 1 := ⟨(en - 1).toNat, by omega⟩
          have hmm : mm < 1000000 := by omega
          replace HFd := Lib.hid HFd
          have hid' := Lib.hid hid
          clear hf0 hmem hid hf1 hf2
          go_wp2_with fail
          refine HW4.out.mono ?_
          rintro e wq ⟨rfl, ew⟩
          obtain rfl := ew.symm
          go_wp2_with fail
          refine HFd.out.mono ?_
          rintro e w2 ⟨rfl, b2⟩
          obtain ⟨xb, exb⟩ : ∃ g, w2.heap.size = g := ⟨_, rfl⟩
          obtain ⟨wx, ewx⟩ : ∃ X, w2.alloc (.cells #[.int .i64 ei, .int .i64 es, .int .i64 ep, .int .i64 ((mm : Int) + 1), .bool et] 40) = X := ⟨_, rfl⟩
          have bx : Below w1.heap.size w1 wx := b2.trans (by rw [← ewx]; exact ((Below.refl _ w2).alloc (Nat.le_refl _) _).mono b2.size)
          have hgx : wx.heap[xb]? = some (.cells #[.int .i64 ei, .int .i64 es, .int .i64 ep, .int .i64 ((mm : Int) + 1), .bool et] 40 (0, 0)) := by rw [← ewx, ← exb]; exact heap_alloc_new w2 _
          have hKx : Hid (BK B b G3 L1 wx.drew) := Lib.hid (a1.out.below bx.drew)
          have Bx : Hid (Below B w wx.drew) := Lib.hid (m1.out.trans (bx.drew.mono a1.out.size))
          have hxG : Hid (xb < wx.drew.heap.size ∧ ¬ G3 xb) := Lib.hid ⟨(Array.getElem?_eq_some_iff.1 hgx).1, fun e => by have := (a1.out.lt e).2; have := b2.size; omega⟩
          have hgx' : Hid (wx.drew.heap[xb]? = some (.cells #[.int .i64 ei, .int .i64 es, .int .i64 ep, .int .i64 ((mm : Int) + 1), .bool et] 40 (0, 0))) := Lib.hid hgx
          have LL5 : Hid (∀ W : World, Only G3 wx.drew W → (fun W : World => W.cell? ⟨xb, 0, none⟩ = some (.int .i64 ei) ∧ W.cell? ⟨xb, 3, none⟩ = some (.int .i64 ((mm : Int) + 1)) ∧ W.cell? ⟨ob, off + i * 5 + 4, none⟩ = some (.int .i64 m)) W ∧ True) := Lib.hid (fun W o => by
            have b2 := Bx.out.trans (hKx.out.mine o)
            obtain ⟨b', o', eo, -, -, -, -, c4⟩ := (hA.out.belowB hAt.out b2).2 i _ hx.out
            injection eo with eo
            injection eo with eo1 eo2
            subst eo1; subst eo2
            obtain ⟨⟨q0, -, -, q3, -⟩, -⟩ := row5 ((o.block xb hxG.out.1 hxG.out.2).trans hgx'.out)
            exact ⟨⟨q0, q3, c4⟩, trivial⟩)
          have z2 := (LL5.out wx.drew ⟨rfl, rfl, rfl, Nat.le_refl _, fun _ _ _ => rfl⟩).1
          simp only at z2
          have HW5 := Within_any m mm wx.drew (by omega) hii.out.2.1 hii.out.2.2
          obtain ⟨k5, ek5⟩ : ∃ k, withinN m mm = k := ⟨_, rfl⟩
          rw [ek5] at HW5
          have hk5 : k5 ≤ mm := by rw [← ek5]; exact withinN_le m mm
          replace HW5 := Lib.hid HW5
          replace ek5 := Lib.hid ek5
          have hfo := fill_ok hcut (n := 1 + (k5 : Int)) (by omega) (by show 1 + (k5 : Int) ≤ (mm : Int) + 1; omega)
          obtain ⟨L5, hfo⟩ := hfo
          have hRu5 := hRu.out.fill ((k4 : Nat) : Int) (1 + (k5 : Int))
          have HFi := BFill_any B b G3 L1 ei (1 + (k5 : Int)) wx.drew hKx ⟨by omega, by omega⟩
          rw [hid'.out, hfo] at HFi
          rw [← hid'.out] at HFi
          rw [hfo] at hRu5
          replace hRu5 := Lib.hid hRu5
          replace HFi := Lib.hid HFi
          replace hfo := Lib.hid hfo
          replace hcut := Lib.hid hcut
          have hs1 : IntKind.i64.wrap ((mm : Int) + 1 - 1) = (mm : Int) := by rw [show ((mm : Int) + 1 - 1) = (mm : Int) by omega]; exact IntWalk.i64_in _ (by omega)
          have hs2 : IntKind.i64.wrap (1 + (k5 : Int)) = 1 + (k5 : Int) := IntWalk.i64_in _ (by omega)
          replace bx := Lib.hid bx
          replace b2 := Lib.hid b2
          replace hgx := Lib.hid hgx
          clear x0 x2 x4
          go_upto_region 11 with (fail)
          (try rw [ewx])
          (try rw [exb])
          refine wp_region_held_drew (S := (fun W : World => W.cell? ⟨xb, 0, none⟩ = some (.int .i64 ei) ∧ W.cell? ⟨xb, 3, none⟩ = some (.int .i64 ((mm : Int) + 1)) ∧ W.cell? ⟨ob, off + i * 5 + 4, none⟩ = some (.int .i64 m))) (by kernel_rfl) z2 (fun hHeld => ?_)
          refine wpAnyH_take (i := 0) (v := .bool true) rfl (by kernel_rfl) (by kernel_rfl) (by kernel_rfl) (fun _ _ _ h => h) (Or.inl ⟨by kernel_rfl, fun W hSw => ?_⟩) (by assumption) ?_
          · (try dsimp only at hSw)
            go_simp
          (try simp only [Act.put, List.setIfInBounds_toArray, List.set_cons_zero, List.set_cons_succ])
          refine wpAnyH_take (i := 1) (v := .bool true) rfl (by kernel_rfl) (by kernel_rfl) (by kernel_rfl) (fun _ _ _ h => h) (Or.inl ⟨by kernel_rfl, fun W hSw => ?_⟩) (by assumption) ?_
          · (try dsimp only at hSw)
            go_simp
          (try simp only [Act.put, List.setIfInBounds_toArray, List.set_cons_zero, List.set_cons_succ])
          refine wpAnyH_take (i := 2) (v := .pointer (some ⟨b, 0, none⟩)) rfl (by kernel_rfl) (by kernel_rfl) (by kernel_rfl) (fun _ _ _ h => h) (Or.inl ⟨by kernel_rfl, fun W hSw => ?_⟩) (by assumption) ?_
          · (try dsimp only at hSw)
            go_simp
          (try simp only [Act.put, List.setIfInBounds_toArray, List.set_cons_zero, List.set_cons_succ])
          refine wpAnyH_take (i := 3) (v := .pointer (some ⟨xb, 0, none⟩)) rfl (by kernel_rfl) (by kernel_rfl) (by kernel_rfl) (fun _ _ _ h => h) (Or.inl ⟨by kernel_rfl, fun W hSw => ?_⟩) (by assumption) ?_
          · (try dsimp only at hSw)
            go_simp
          (try simp only [Act.put, List.setIfInBounds_toArray, List.set_cons_zero, List.set_cons_succ])
          refine wpAnyH_take (i := 4) (v := .int .i64 ei) rfl (by kernel_rfl) (by kernel_rfl) (by kernel_rfl) (fun _ _ _ h => h) (Or.inl ⟨by kernel_rfl, fun W hSw => ?_⟩) (by assumption) ?_
          · (try dsimp only at hSw)
            go_simp
          (try simp only [Act.put, List.setIfInBounds_toArray, List.set_cons_zero, List.set_cons_succ])
          refine wpAnyH_take (i := 5) (v := .slice (some ⟨ob, off, none⟩) n cap) rfl (by kernel_rfl) (by kernel_rfl) (by kernel_rfl) (fun _ _ _ h => h) (Or.inl ⟨by kernel_rfl, fun W hSw => ?_⟩) (by assumption) ?_
          · (try dsimp only at hSw)
            go_simp
          (try simp only [Act.put, List.setIfInBounds_toArray, List.set_cons_zero, List.set_cons_succ])
          refine wpAnyH_take (i := 6) (v := .int .i64 (i : Int)) rfl (by kernel_rfl) (by kernel_rfl) (by kernel_rfl) (fun _ _ _ h => h) (Or.inl ⟨by kernel_rfl, fun W hSw => ?_⟩) (by assumption) ?_
          · (try dsimp only at hSw)
            go_simp
          (try simp only [Act.put, List.setIfInBounds_toArray, List.set_cons_zero, List.set_cons_succ])
          refine wpAnyH_take (i := 7) (v := .pointer (some ⟨ob, off + i * 5, none⟩)) rfl (by kernel_rfl) (by kernel_rfl) (by kernel_rfl) (fun _ _ _ h => h) (Or.inl ⟨by kernel_rfl, fun W hSw => ?_⟩) (by assumption) ?_
          · (try dsimp only at hSw)
            go_simp
          (try simp only [Act.put, List.setIfInBounds_toArray, List.set_cons_zero, List.set_cons_succ])
          refine wpAnyH_take (i := 8) (v := .pointer (some ⟨ob, off + i * 5 + 4, none⟩)) rfl (by kernel_rfl) (by kernel_rfl) (by kernel_rfl) (fun _ _ _ h => h) (Or.inl ⟨by kernel_rfl, fun W hSw => ?_⟩) (by assumption) ?_
          · (try dsimp only at hSw)
            go_simp
          (try simp only [Act.put, List.setIfInBounds_toArray, List.set_cons_zero, List.set_cons_succ])
          refine wpAnyH_take (i := 9) (v := .int .i64 m) rfl (by kernel_rfl) (by kernel_rfl) (by kernel_rfl) (fun _ _ _ h => h) (Or.inl ⟨by kernel_rfl, fun W hSw => ?_⟩) (by assumption) ?_
          · (try dsimp only at hSw)
            go_simp
          (try simp only [Act.put, List.setIfInBounds_toArray, List.set_cons_zero, List.set_cons_succ])
          refine wpAnyH_take (i := 10) (v := .pointer (some ⟨xb, 3, none⟩)) rfl (by kernel_rfl) (by kernel_rfl) (by kernel_rfl) (fun _ _ _ h => h) (Or.inl ⟨by kernel_rfl, fun W hSw => ?_⟩) (by assumption) ?_
          · (try dsimp only at hSw)
            go_simp
          (try simp only [Act.put, List.setIfInBounds_toArray, List.set_cons_zero, List.set_cons_succ])
          refine wpAnyH_take (i := 11) (v := .int .i64 ((mm : Int) + 1)) rfl (by kernel_rfl) (by kernel_rfl) (by kernel_rfl) (fun _ _ _ h => h) (Or.inl ⟨by kernel_rfl, fun W hSw => ?_⟩) (by assumption) ?_
          · (try dsimp only at hSw)
            go_simp
          (try simp only [Act.put, List.setIfInBounds_toArray, List.set_cons_zero, List.set_cons_succ])
          refine wpAnyH_take (i := 12) (v := .int .i64 (mm : Int)) rfl (by kernel_rfl) (by kernel_rfl) (by kernel_rfl) (fun _ _ _ h => h) (Or.inl ⟨by kernel_rfl, fun W hSw => ?_⟩) (by assumption) ?_
          · (try dsimp only at hSw)
            go_simp
            exact IntWalk.i64_in _ (by omega)
          (try simp only [Act.put, List.setIfInBounds_toArray, List.set_cons_zero, List.set_cons_succ])
          refine wpAnyH_ready (rs := [13]) (by kernel_rfl) (by simp) ?_
          refine AllReadyH.cons rfl (fun K hK => ?_) AllReadyH.nil
          go_simp
          refine HW5.out.mono ?_
          rintro e wq ⟨rfl, ew⟩
          obtain rfl := ew.symm
          refine hK.out _ _ z2 (fun hHeld => ?_)
          clear hK K
          (try simp only [Act.put, List.setIfInBounds_toArray, List.set_cons_zero, List.set_cons_succ])
          refine wpAnyH_take (i := 14) (v := .int .i64 (1 + (k5 : Int))) rfl (by kernel_rfl) (by kernel_rfl) (by kernel_rfl) (fun _ _ _ h => h) (Or.inl ⟨by kernel_rfl, fun W hSw => ?_⟩) (by assumption) ?_
          · (try dsimp only at hSw)
            go_simp
          (try simp only [Act.put, List.setIfInBounds_toArray, List.set_cons_zero, List.set_cons_succ])
          refine wpAnyH_ready (rs := [15]) (by kernel_rfl) (by simp) ?_
          refine AllReadyH.cons rfl (fun K hK => ?_) AllReadyH.nil
          go_simp
          refine HFi.out.mono ?_
          rintro e w5 ⟨G5, rfl, a5, o5, n5⟩
          have b5 := Lib.hid (Bx.out.trans (hKx.out.mine o5))
          obtain ⟨z5, -⟩ := LL5.out w5 o5
          replace a5 := Lib.hid a5
          clear o5 n5
          refine hK.out _ _ z5 (fun hHeld => ?_)
          clear hK K
          (try simp only [Act.put, List.setIfInBounds_toArray, List.set_cons_zero, List.set_cons_succ])
          refine wpAnyH_take (i := 16) (v := .bool false) rfl (by kernel_rfl) (by kernel_rfl) (by kernel_rfl) (fun _ _ _ h => h) (Or.inl ⟨by kernel_rfl, fun W hSw => ?_⟩) (by assumption) ?_
          · (try dsimp only at hSw)
            go_simp
          (try simp only [Act.put, List.setIfInBounds_toArray, List.set_cons_zero, List.set_cons_succ])
          refine wpAnyH_take (i := 17) (v := .bool false) rfl (by kernel_rfl) (by kernel_rfl) (by kernel_rfl) (fun _ _ _ h => h) (Or.inl ⟨by kernel_rfl, fun W hSw => ?_⟩) (by assumption) ?_
          · (try dsimp only at hSw)
            go_simp
          (try simp only [Act.put, List.setIfInBounds_toArray, List.set_cons_zero, List.set_cons_succ])
          refine wpAnyH_done (by kernel_rfl) ?_ _
          clear z5 z2 HFi HW5 hHeld
          go_wp2_with fail
          go_roundw
          case rel => exact ⟨i + 1, G5, L5, by go_num, by omega, by omega, a5, hRu5, b5⟩
          case measure => simp [intOf]; omega
      · have dk : (kk.tmod 3 == 0) = false := by simpa using hk
        replace hk := Lib.hid hk
        clear x2 x4
        go_wp2_with fail
        go_roundw
        case rel => exact ⟨i + 1, G3, L1, by go_num, by omega, by omega, a1, hRu, m1⟩
        case measure => simp [intOf]; omega
    · have hKs := hK.out.size
      go_upto_region 5 with (fail)
      go_cut [26] from 19 to 26 (fun cv wx => cv = .bool false ∧ wx = wo)
      case first =>
        by_cases hin : i < n
        · have d1 : decide ((i : Int) < (n : Int)) = true := decide_eq_true (by omega)
          have d1' : decide (i < n) = true := decide_eq_true hin
          have d2 : decide ((i : Int) < 60) = false := decide_eq_false (by omega)
          go_wp2_with fail
          go_meet
          exact ⟨rfl, rfl⟩
        · have d1 : decide ((i : Int) < (n : Int)) = false := decide_eq_false (by omega)
          have d1' : decide (i < n) = false := decide_eq_false hin
          go_wp2_with fail
          go_meet
          exact ⟨rfl, rfl⟩
      case rest =>
        obtain ⟨rfl, rfl⟩ := hcut
        clear hi1 hi2 hc p1 p2 hA hAt hO
        have hlk := Lib.hid hK.out.lok
        have hM := hK.out.lok.room
        obtain ⟨nM, enM⟩ : ∃ k, L0.length = k := ⟨_, rfl⟩
        rw [enM] at hM
        replace enM := Lib.hid enM
        go_wp2_with fail
        go_loopw [8, 9] (fun nv sv wr => ∃ (s N : Nat), nv = .int .i64 N ∧ sv = .int .i64 s ∧ 1 ≤ s ∧ s ≤ 3 ∧ N ≤ 250 ∧ Hid ((N : Int) = upN L0 s) ∧ Hid (Below wc.heap.size wc wr)) (fun _ sv _ => (3 - intOf sv).toNat)
        case atStart => exact ⟨1, 0, rfl, rfl, by omega, by omega, by omega, Lib.hid rfl, Lib.hid (Below.refl _ _)⟩
        case round =>
          rename World => w2
          obtain ⟨s, N, rfl, rfl, hs1, hs3, hN, hNe, hB2⟩ := hrel
          have hK2 := Lib.hid (hK.out.below hB2.out)
          by_cases hs : s ≤ 2
          · have hs12 : s = 1 ∨ s = 2 := by omega
            have f1 : decide ((s : Int) ≤ 2) = true := decide_eq_true (by omega)
            have f2 : (s : Int) ≤ 2 := by omega
            have HL := Lib.hid (BLadder_any B b G L0 (s : Int) w2 hK2)
            have hcb := fun j => cnt_bd hlk.out (s : Int) j
            obtain ⟨D, eD⟩ : ∃ D, ladO L0 (s : Int) = D := ⟨_, rfl⟩
            rw [eD] at HL hcb
            obtain ⟨nl, enl⟩ : ∃ k, D.length = k := ⟨_, rfl⟩
            have hnl : nl ≤ 250 := by have := (hcb 0).2.2; omega
            replace hcb := Lib.hid hcb
            replace eD := Lib.hid eD
            go_wp2_with fail
            refine HL.out.mono ?_
            rintro e w3 ⟨v3, rfl, O3, b3⟩
            obtain ⟨A3, cap3, rfl, hv3, y1, y2, y3, y4⟩ := O3.slice
            rw [enl] at y1 hv3 ⊢
            have hK3 := Lib.hid (hK2.out.below b3)
            have hB3 := Lib.hid (hB2.out.trans (b3.mono hB2.out.size))
            replace hv3 := Lib.hid hv3
            replace enl := Lib.hid enl
            clear HL O3 y3 y4 b3
            go_wp2_with fail
            refine BRules_lad hK3 hlk hP hcb hNe eD enl hv3 hs12 hN y1 y2 hnl (Lib.hid ?_)
            intro u2 u13 u14 u15 u97 u98 u99 u100 u101 u102 u103 u104 u105 u106 u107 u108 u109 u110 u111 u112 u113 u114 u115 u116 u117 u118 u119 u120 u121 u122 u123 u124 u125 u126 u127 u128 u129 u130 u131 u132 u133 u134 u135 u136 u137 u138 u139 u140 u141 u142 u143 u144 u145 u146 u147 u148 u149 u150 u151 u152 u153 u154 u155 u156 u157 u158 u159 u160 u161 u162 u163 u164 u165 u166 u167 u168 u169 u170 u171 u172 u173 u174 u175 u176 u177 u178 u179 u180 u181 u182 u183 u184 u185 u186 u187 u188 u189 u190 u191 u192 u193 u194 u195 u196 u197 u198 u199 u200 u201 u202 u203 u204 u205 u206 u207 u208 u209 u210 u211 u212 u213 u214 u215 u216 u217 u218 u219 u220 u221 u222 u223 u224 u225 u226 u227 u228 u229 u230 u231 u232 u233 u234 T N3 w4 hT hN3 hNe3 hB4
            have g4 : decide ((1 : Int) < (T : Int)) = false := decide_eq_false (by omega)
            have g5 : decide (1 < T) = false := decide_eq_false (by omega)
            have g6 : ¬ 1 < T := by omega
            have hNn : Hid ((N3 : Int) = upN L0 (s + 1)) := Lib.hid (by rw [upN_next hlk.out hs12, eD.out, enl.out]; exact hNe3.out)
            have hNb : N3 ≤ 250 := by have := (upN_bd hlk.out (s + 1)).2; have := hNn.out; omega
            have hB5 := Lib.hid (hB3.out.trans (hB4.out.mono hB3.out.size))
            go_wp2_with fail
            go_roundw
            case rel => exact ⟨s + 1, N3, rfl, by go_num, by omega, by omega, hNb, hNn, hB5⟩
            case measure => simp [intOf]; omega
          · obtain rfl : s = 3 := by omega
            have f1 : decide ((3 : Int) ≤ 2) = false := by decide
            obtain rfl : N = nM := by have := hNe.out; unfold upN at this; rw [enM.out] at this; simp at this; omega
            have HC := Lib.hid (BkCount_any B b G L0 w2 hK2)
            have HOr := Lib.hid (BOrders_any B b G L0 w2 hK2)
            rw [enM.out] at HC
            go_wp2_with fail
            refine HC.out.mono ?_
            rintro e w3 ⟨rfl, rfl⟩
            go_wp2_with fail
            refine HOr.out.mono ?_
            rintro e w4 ⟨v4, rfl, O4, b4⟩
            obtain ⟨A4, cap4, rfl, hv4, t1, t2, t3, t4⟩ := O4.slice
            rw [enM.out] at t1 hv4 ⊢
            have HKn := Lib.hid (BKnown_any w4)
            replace hv4 := Lib.hid hv4
            have B4 := Lib.hid (hB.out.trans ((hB2.out.trans (b4.mono hB2.out.size)).mono hKs))
            have hsz : B ≤ w4.heap.size := by have h1 := B4.out.size; have h2 := eB.out; omega
            clear O4 b4 t3 t4
            go_wp2_with fail
            refine HKn.out.mono ?_
            rintro e w5 ⟨rfl, b5⟩
            replace b5 := Lib.hid b5
            go_wp2_with fail
            go_ret
            exact ⟨rfl, B4.out.trans (b5.out.mono hsz)⟩
end Go.Proofs.Ytlknlicokacoiaa
