/-
  A quote's two legs: their instruments and prices are laid in two rows of three.
-/
import Derived.Test.YtdeofifidjbolaaIpTells
import Derived.Deep.QuietTactic
import Derived.BigQuiet
import Derived.Deep.Cut
namespace Go.Proofs.Ytdeofifidjbolaa
open Go.RowKit
set_option linter.unusedVariables false
set_option linter.unusedSimpArgs false

def loopsOfL : Code → List Code
  | .loop c => c :: loopsOfL c
  | .seq a b => loopsOfL a ++ loopsOfL b
  | .block _ c => loopsOfL c
  | .scope c => loopsOfL c
  | .cond _ a b => loopsOfL a ++ loopsOfL b
  | _ => []
noncomputable def bdRulL : Code := ((loopsOfL (Try.f5.body.getD .skip))[2]?).getD .skip
set_option maxRecDepth 100000 in
set_option maxHeartbeats 8000000 in
theorem IRul_legs {Q0 : Exit → Act → World → Prop} {c0 c1 c2 c3 c4 c5 c6 c7 c9 c10 c16 c17 c18 c19 c20 c21 c22 c23 c24 c25 c26 c27 c28 c29 c30 c31 c32 c33 c34 c35 c36 c37 c38 c39 c40 c41 c42 c43 c44 c45 c46 c47 c48 c49 c50 c51 c52 c53 c54 c55 c56 c57 c58 c59 c60 c61 c62 c63 c64 c65 c66 c67 c68 c69 c70 c71 c72 c73 c74 c75 c76 c77 c78 c79 c80 c81 c82 c83 c84 c85 c86 c87 c88 c89 c90 c91 c92 c93 c94 c95 c96 c97 c98 c99 c100 c101 c102 c103 c104 c105 c106 c107 c108 c109 c110 c111 c112 c113 c114 c115 c116 c117 c118 c119 c120 c121 c122 c123 c124 c125 c126 c127 c128 c129 c130 c131 c132 c133 c134 c135 c136 c137 c138 c139 c140 c141 c142 c143 c144 c145 c146 c147 c148 c149 c150 c151 c152 c153 c154 c155 c156 c157 c158 c159 c160 c161 c162 c163 c164 c165 c166 c167 c168 c169 c170 c171 c172 c173 c174 c175 c176 c177 c178 c179 c180 c181 c182 c183 c184 c185 c186 c187 c188 c189 c190 c191 c192 c193 c194 c195 c196 c197 c198 c199 c200 c201 c202 c203 c204 c205 c206 c207 c208 c209 c210 c211 c212 c213 c214 : Value} {ab qb B cn k5 nq cq i j1 j2 : Nat} {A5 Aq : Option Addr} {k qp qn s1 s2 r1 r2 : Int} {xa1 xb1 xa2 xb2 : Bool} {xc1 xd1 xe1 xf1 xc2 xd2 xe2 xf2 : Int} {TL : List Tp} {LQ : List Qt} {w3 : World}
    (hT : Hid (∀ W, Below B w3 W → HV fTp W A5 cn TL)) (hTB : Hid (∀ x : Addr, A5 = some x → x.block ≠ ab ∧ x.block ≠ qb)) (hQ : Hid (∀ W, Below B w3 W → HV fQt W Aq nq LQ)) (hq : Hid (LQ[i]? = some ⟨qp, qn, (j1 : Int), s1, (j2 : Int), s2⟩)) (hi : i < nq) (hcn : cn ≤ 100) (hx1 : Hid (TL[j1]? = some ⟨xa1, xb1, xc1, xd1, xe1, xf1⟩)) (hx2 : Hid (TL[j2]? = some ⟨xa2, xb2, xc2, xd2, xe2, xf2⟩)) (hs1 : s1 = 1 ∨ s1 = 2) (hs2 : s2 = 1 ∨ s2 = 2)
    (hh1 : Tp.has ⟨xa1, xb1, xc1, xd1, xe1, xf1⟩ s1 = true) (hh2 : Tp.has ⟨xa2, xb2, xc2, xd2, xe2, xf2⟩ s2 = true) (hr1 : Tp.price ⟨xa1, xb1, xc1, xd1, xe1, xf1⟩ s1 = r1) (hr2 : Tp.price ⟨xa2, xb2, xc2, xd2, xe2, xf2⟩ s2 = r2) (hn1 : qn ≤ Tp.qty ⟨xa1, xb1, xc1, xd1, xe1, xf1⟩ s1) (hn2 : qn ≤ Tp.qty ⟨xa2, xb2, xc2, xd2, xe2, xf2⟩ s2) (hj1 : j1 < cn) (hj2 : j2 < cn)
    (ha : Hid (w3.heap[ab]? = some (.cells #[.int .i64 k, .int .i64 0, .int .i64 0] 46 (0, 0)))) (hb : Hid (w3.heap[qb]? = some (.cells #[.int .i64 qp, .int .i64 0, .int .i64 0] 47 (0, 0)))) (hBa : B ≤ ab) (hBq : B ≤ qb) (hne : ab ≠ qb) (hBs : B ≤ w3.heap.size)
    (hQp : Hid (∀ c (a : Act) d v w, Q0 (.panic c) (a.put d v) w → Q0 (.panic c) a w)) (hX : Hid (∀ (u6 u16 u57 u58 u59 u60 u61 u62 u63 u64 u65 u66 u67 u68 u69 u70 u71 u72 u73 u74 u75 u76 u77 u78 u79 u80 u81 u82 u83 u84 u85 u86 u87 u88 u89 u90 u91 u92 u93 u94 u95 u96 u97 u98 u99 u100 u101 u102 u103 u104 u105 u106 u107 u108 u109 u110 u111 u112 u113 u114 u115 u116 u117 u118 u119 u120 u121 u122 u123 u124 u125 u126 u127 u128 u129 u130 u131 u132 u133 u134 u135 u136 : Value) (w4 : World), Hid (w4.heap[ab]? = some (.cells #[.int .i64 k, .int .i64 (j1 : Int), .int .i64 (j2 : Int)] 46 (0, 0))) ∧ Hid (w4.heap[qb]? = some (.cells #[.int .i64 qp, .int .i64 r1, .int .i64 r2] 47 (0, 0))) ∧ Hid (Below B w3 w4) → Q0 (.exit 4) ⟨List.toArray (c0 :: c1 :: c2 :: c3 :: c4 :: c5 :: u6 :: c7 :: .slice A5 cn k5 :: c9 :: c10 :: .slice Aq nq cq :: .int .i64 (i : Int) :: .pointer (some ⟨ab, 0, none⟩) :: .pointer (some ⟨qb, 0, none⟩) :: .int .i64 2 :: u16 :: c17 :: c18 :: c19 :: c20 :: c21 :: c22 :: c23 :: c24 :: c25 :: c26 :: c27 :: c28 :: c29 :: c30 :: c31 :: c32 :: c33 :: c34 :: c35 :: c36 :: c37 :: c38 :: c39 :: c40 :: c41 :: c42 :: c43 :: c44 :: c45 :: c46 :: c47 :: c48 :: c49 :: c50 :: c51 :: c52 :: c53 :: c54 :: c55 :: c56 :: u57 :: u58 :: u59 :: u60 :: u61 :: u62 :: u63 :: u64 :: u65 :: u66 :: u67 :: u68 :: u69 :: u70 :: u71 :: u72 :: u73 :: u74 :: u75 :: u76 :: u77 :: u78 :: u79 :: u80 :: u81 :: u82 :: u83 :: u84 :: u85 :: u86 :: u87 :: u88 :: u89 :: u90 :: u91 :: u92 :: u93 :: u94 :: u95 :: u96 :: u97 :: u98 :: u99 :: u100 :: u101 :: u102 :: u103 :: u104 :: u105 :: u106 :: u107 :: u108 :: u109 :: u110 :: u111 :: u112 :: u113 :: u114 :: u115 :: u116 :: u117 :: u118 :: u119 :: u120 :: u121 :: u122 :: u123 :: u124 :: u125 :: u126 :: u127 :: u128 :: u129 :: u130 :: u131 :: u132 :: u133 :: u134 :: u135 :: u136 :: c137 :: c138 :: c139 :: c140 :: c141 :: c142 :: c143 :: c144 :: c145 :: c146 :: c147 :: c148 :: c149 :: c150 :: c151 :: c152 :: c153 :: c154 :: c155 :: c156 :: c157 :: c158 :: c159 :: c160 :: c161 :: c162 :: c163 :: c164 :: c165 :: c166 :: c167 :: c168 :: c169 :: c170 :: c171 :: c172 :: c173 :: c174 :: c175 :: c176 :: c177 :: c178 :: c179 :: c180 :: c181 :: c182 :: c183 :: c184 :: c185 :: c186 :: c187 :: c188 :: c189 :: c190 :: c191 :: c192 :: c193 :: c194 :: c195 :: c196 :: c197 :: c198 :: c199 :: c200 :: c201 :: c202 :: c203 :: c204 :: c205 :: c206 :: c207 :: c208 :: c209 :: c210 :: c211 :: c212 :: c213 :: c214 :: []), []⟩ w4)) :
    Code.wp Try.prog (.loop bdRulL) Q0 ⟨List.toArray (c0 :: c1 :: c2 :: c3 :: c4 :: c5 :: c6 :: c7 :: .slice A5 cn k5 :: c9 :: c10 :: .slice Aq nq cq :: .int .i64 (i : Int) :: .pointer (some ⟨ab, 0, none⟩) :: .pointer (some ⟨qb, 0, none⟩) :: .int .i64 0 :: c16 :: c17 :: c18 :: c19 :: c20 :: c21 :: c22 :: c23 :: c24 :: c25 :: c26 :: c27 :: c28 :: c29 :: c30 :: c31 :: c32 :: c33 :: c34 :: c35 :: c36 :: c37 :: c38 :: c39 :: c40 :: c41 :: c42 :: c43 :: c44 :: c45 :: c46 :: c47 :: c48 :: c49 :: c50 :: c51 :: c52 :: c53 :: c54 :: c55 :: c56 :: c57 :: c58 :: c59 :: c60 :: c61 :: c62 :: c63 :: c64 :: c65 :: c66 :: c67 :: c68 :: c69 :: c70 :: c71 :: c72 :: c73 :: c74 :: c75 :: c76 :: c77 :: c78 :: c79 :: c80 :: c81 :: c82 :: c83 :: c84 :: c85 :: c86 :: c87 :: c88 :: c89 :: c90 :: c91 :: c92 :: c93 :: c94 :: c95 :: c96 :: c97 :: c98 :: c99 :: c100 :: c101 :: c102 :: c103 :: c104 :: c105 :: c106 :: c107 :: c108 :: c109 :: c110 :: c111 :: c112 :: c113 :: c114 :: c115 :: c116 :: c117 :: c118 :: c119 :: c120 :: c121 :: c122 :: c123 :: c124 :: c125 :: c126 :: c127 :: c128 :: c129 :: c130 :: c131 :: c132 :: c133 :: c134 :: c135 :: c136 :: c137 :: c138 :: c139 :: c140 :: c141 :: c142 :: c143 :: c144 :: c145 :: c146 :: c147 :: c148 :: c149 :: c150 :: c151 :: c152 :: c153 :: c154 :: c155 :: c156 :: c157 :: c158 :: c159 :: c160 :: c161 :: c162 :: c163 :: c164 :: c165 :: c166 :: c167 :: c168 :: c169 :: c170 :: c171 :: c172 :: c173 :: c174 :: c175 :: c176 :: c177 :: c178 :: c179 :: c180 :: c181 :: c182 :: c183 :: c184 :: c185 :: c186 :: c187 :: c188 :: c189 :: c190 :: c191 :: c192 :: c193 :: c194 :: c195 :: c196 :: c197 :: c198 :: c199 :: c200 :: c201 :: c202 :: c203 :: c204 :: c205 :: c206 :: c207 :: c208 :: c209 :: c210 :: c211 :: c212 :: c213 :: c214 :: []), []⟩ w3 := by
  conv => arg 2; arg 1; whnf
  have B0 := Lib.hid (Below.refl B w3)
  replace hh1 := Lib.hid hh1
  go_loopw [15] (fun iv wr => (iv = .int .i64 0 ∧ Hid (wr.heap[ab]? = some (.cells #[.int .i64 k, .int .i64 0, .int .i64 0] 46 (0, 0))) ∧ Hid (wr.heap[qb]? = some (.cells #[.int .i64 qp, .int .i64 0, .int .i64 0] 47 (0, 0))) ∧ Hid (Below B w3 wr)) ∨ (iv = .int .i64 1 ∧ Hid (wr.heap[ab]? = some (.cells #[.int .i64 k, .int .i64 (j1 : Int), .int .i64 0] 46 (0, 0))) ∧ Hid (wr.heap[qb]? = some (.cells #[.int .i64 qp, .int .i64 r1, .int .i64 0] 47 (0, 0))) ∧ Hid (Below B w3 wr)) ∨ (iv = .int .i64 2 ∧ Hid (wr.heap[ab]? = some (.cells #[.int .i64 k, .int .i64 (j1 : Int), .int .i64 (j2 : Int)] 46 (0, 0))) ∧ Hid (wr.heap[qb]? = some (.cells #[.int .i64 qp, .int .i64 r1, .int .i64 r2] 47 (0, 0))) ∧ Hid (Below B w3 wr))) (fun iv _ => 2 - (intOf iv).toNat)
  case atStart => exact .inl ⟨rfl, ha, hb, B0⟩
  case round =>
    clear ha hb B0
    replace hh1 := hh1.out
    rcases hrel with ⟨rfl, ha, hb, hB⟩ | ⟨rfl, ha, hb, hB⟩ | ⟨rfl, ha, hb, hB⟩
    · skip
      rcases hs1 with rfl | rfl
      · skip
        obtain ⟨b, off, e5, t0, t1, t2, t3, t4, t5⟩ := (hT.out wr hB.out).atT hx1.out
        obtain ⟨bq, offq, eq, y0, y1, y2, y3, y4, y5⟩ := (hQ.out wr hB.out).atQ hq.out
        subst e5
        subst eq
        simp only at t0 t1 t2 t3 t4 t5 y0 y1 y2 y3 y4 y5
        have hh := hh1
        have hr := hr1
        have hn := hn1
        simp only [Tp.has, Tp.price, Tp.qty, if_true] at hh hr hn
        subst hh
        subst hr
        have hj := hj1
        have dj1 : decide ((j1 : Int) < 0) = false := decide_eq_false (by omega)
        have dj2 : decide ((cn : Int) ≤ (j1 : Int)) = false := decide_eq_false (by omega)
        have dj2' : decide (cn ≤ j1) = false := decide_eq_false (by omega)
        have dj3 : decide ((j1 : Int) < (cn : Int)) = true := decide_eq_true (by omega)
        have dj4 : (j1 : Int) < (cn : Int) := by omega
        have di3 : decide ((i : Int) < (nq : Int)) = true := decide_eq_true (by omega)
        have di4 : (i : Int) < (nq : Int) := by omega
        obtain ⟨gb, egb⟩ : ∃ x, wr.heap.size = x := ⟨_, rfl⟩
        obtain ⟨W1, eW1⟩ : ∃ W, wr.alloc (.cells #[.int .i64 (j1 : Int), .int .i64 1] 34) = W := ⟨_, rfl⟩
        have hg1 : W1.heap[gb]? = some (.cells #[.int .i64 (j1 : Int), .int .i64 1] 34 (0, 0)) := by rw [← eW1, ← egb]; exact heap_alloc_new wr _
        have bw1 : Below wr.heap.size wr W1 := by rw [← eW1]; exact (Below.refl _ wr).alloc (Nat.le_refl _) _
        have g0 : W1.cell? ⟨gb, 0, none⟩ = some (.int .i64 (j1 : Int)) := by rw [Lib.cell_of_heap hg1]; rfl
        have g1 : W1.cell? ⟨gb, 1, none⟩ = some (.int .i64 1) := by rw [Lib.cell_of_heap hg1]; rfl
        have hgB : Hid (gb ≠ ab ∧ gb ≠ qb) := Lib.hid ⟨by have := (Array.getElem?_eq_some_iff.1 ha.out).1; omega, by have := (Array.getElem?_eq_some_iff.1 hb.out).1; omega⟩
        have hbB : Hid (b ≠ ab ∧ b ≠ qb) := Lib.hid (hTB.out _ rfl)
        have hwr := hB.out.size
        have u0 := (bw1.cell (p := ⟨b, off + j1 * 6, none⟩) (World.block_lt_of_cell? wr _ t0)).trans t0
        have u1 := (bw1.cell (p := ⟨b, off + j1 * 6 + 2, none⟩) (World.block_lt_of_cell? wr _ t2)).trans t2
        have u2 := (bw1.cell (p := ⟨b, off + j1 * 6 + 4, none⟩) (World.block_lt_of_cell? wr _ t4)).trans t4
        have v1 := (bw1.cell (p := ⟨bq, offq + i * 6 + 1, none⟩) (World.block_lt_of_cell? wr _ y1)).trans y1
        have ha1 := (bw1.block ab (Array.getElem?_eq_some_iff.1 ha.out).1).trans ha.out
        have hb1 := (bw1.block qb (Array.getElem?_eq_some_iff.1 hb.out).1).trans hb.out
        have B1 : Below B w3 W1 := hB.out.trans (bw1.mono (Nat.le_trans hBs hwr))
        replace hg1 := Lib.hid hg1
        replace ha1 := Lib.hid ha1
        replace hb1 := Lib.hid hb1
        replace B1 := Lib.hid B1
        replace eW1 := Lib.hid eW1
        replace egb := Lib.hid egb
        clear bw1 t0 t1 t2 t3 t4 t5 hwr
        go_upto_region 18 with (fail)
        rw [eW1.out, egb.out]
        clear eW1 egb y0 y1 y2 y3 y4 y5
        have dq : decide (xe1 < qn) = false := decide_eq_false (by omega)
        go_quiet (fail)
        go_upto_region 20 with (fail)
        rename Nat => dq
        obtain ⟨W2, eW2⟩ : ∃ W, W1.drewN dq = W := ⟨_, rfl⟩
        have bw2 : Below W1.heap.size W1 W2 := by rw [← eW2]; exact below_drewN (Below.refl _ _) _
        rw [eW2]
        have ha2 := (bw2.block ab (Array.getElem?_eq_some_iff.1 ha1.out).1).trans ha1.out
        have hb2 := (bw2.block qb (Array.getElem?_eq_some_iff.1 hb1.out).1).trans hb1.out
        have hg2 := (bw2.block gb (Array.getElem?_eq_some_iff.1 hg1.out).1).trans hg1.out
        have B2 : Below B w3 W2 := B1.out.trans (bw2.mono (Nat.le_trans hBs B1.out.size))
        have h0 : W2.cell? ⟨gb, 0, none⟩ = some (.int .i64 (j1 : Int)) := by rw [Lib.cell_of_heap hg2]; rfl
        have h1 : W2.cell? ⟨gb, 1, none⟩ = some (.int .i64 1) := by rw [Lib.cell_of_heap hg2]; rfl
        have q1 := (bw2.cell (p := ⟨b, off + j1 * 6 + 2, none⟩) (World.block_lt_of_cell? W1 _ u1)).trans u1
        have f1 := Lib.frozen_of_heap ha2 1
        have c1 : W2.cell? ⟨ab, 1, none⟩ = some (.int .i64 0) := by rw [Lib.cell_of_heap ha2]; rfl
        have s1 := heap_setCell_same W2 ab 1 _ 46 (.int .i64 (j1 : Int)) ha2
        have on1 := set_only W2 ab 1 (.int .i64 (j1 : Int))
        obtain ⟨Wa, eWa⟩ : ∃ W, (W2.setCell ⟨ab, 1, none⟩ (.int .i64 (j1 : Int))).drew = W := ⟨_, rfl⟩
        have on1' : Only (fun k => k = ab) W2 Wa := by rw [← eWa]; exact on1.trans ((Only.refl _ _).drewN 1)
        have s1' : Wa.heap[ab]? = some (.cells #[.int .i64 k, .int .i64 (j1 : Int), .int .i64 0] 46 (0, 0)) := by rw [← eWa]; exact s1
        have s2 : Wa.heap[qb]? = some (.cells #[.int .i64 qp, .int .i64 0, .int .i64 0] 47 (0, 0)) := (on1'.block qb (Array.getElem?_eq_some_iff.1 hb2).1 (fun e => hne e.symm)).trans hb2
        have f2 := Lib.frozen_of_heap s2 1
        have c2 : Wa.cell? ⟨qb, 1, none⟩ = some (.int .i64 0) := by rw [Lib.cell_of_heap s2]; rfl
        have s3 := heap_setCell_same Wa qb 1 _ 47 (.int .i64 xc1) s2
        have on2 := set_only Wa qb 1 (.int .i64 xc1)
        have s4 := (on2.block ab (Array.getElem?_eq_some_iff.1 s1').1 hne).trans s1'
        have B3 : Below B w3 (Wa.setCell ⟨qb, 1, none⟩ (.int .i64 xc1)) := (B2.trans (on1'.below (Nat.le_trans hBs B2.size) (fun k hk e => by omega))).trans (on2.below (Nat.le_trans (Nat.le_trans hBs B2.size) on1'.size) (fun k hk e => by omega))
        have bne : b ≠ ab := fun e => hbB.out.1 e
        have bnq : b ≠ qb := fun e => hbB.out.2 e
        obtain ⟨W3, eW3⟩ : ∃ W, Wa.setCell ⟨qb, 1, none⟩ (.int .i64 xc1) = W := ⟨_, rfl⟩
        have hga : gb ≠ ab := hgB.out.1
        have hgq : gb ≠ qb := hgB.out.2
        have z0 : (fun W : World => W.cell? ⟨gb, 0, none⟩ = some (.int .i64 (j1 : Int)) ∧ W.cell? ⟨gb, 1, none⟩ = some (.int .i64 1) ∧ W.cell? ⟨b, off + j1 * 6 + 2, none⟩ = some (.int .i64 xc1)) W2.drew := ⟨h0, h1, q1⟩
        have z1 : (fun W : World => W.cell? ⟨gb, 0, none⟩ = some (.int .i64 (j1 : Int)) ∧ W.cell? ⟨gb, 1, none⟩ = some (.int .i64 1) ∧ W.cell? ⟨b, off + j1 * 6 + 2, none⟩ = some (.int .i64 xc1)) Wa := ⟨on1'.cell h0 hga, on1'.cell h1 hga, on1'.cell q1 bne⟩
        have z2 : (fun W : World => W.cell? ⟨gb, 0, none⟩ = some (.int .i64 (j1 : Int)) ∧ W.cell? ⟨gb, 1, none⟩ = some (.int .i64 1) ∧ W.cell? ⟨b, off + j1 * 6 + 2, none⟩ = some (.int .i64 xc1)) W3 := by rw [← eW3]; exact ⟨on2.cell z1.1 hgq, on2.cell z1.2.1 hgq, on2.cell z1.2.2 bnq⟩
        have ha3 : Hid (W3.heap[ab]? = some (.cells #[.int .i64 k, .int .i64 (j1 : Int), .int .i64 0] 46 (0, 0))) := Lib.hid (by rw [← eW3]; exact s4)
        have hb3 : Hid (W3.heap[qb]? = some (.cells #[.int .i64 qp, .int .i64 xc1, .int .i64 0] 47 (0, 0))) := Lib.hid (by rw [← eW3]; exact s3)
        rw [eW3] at B3
        replace B3 := Lib.hid B3
        replace eW3 := Lib.hid eW3
        replace eWa := Lib.hid eWa
        replace eW2 := Lib.hid eW2
        clear ha2 hb2 hg2 B2 bw2 s1 s1' s2 s3 s4 on1 on1' on2 u0 u1 u2 v1 ha1 hb1 hg1 B1 g0 g1 ha hb hB eW2
        have wz0 : IntKind.i64.wrap 0 = 0 := by decide
        have wz1 : IntKind.i64.wrap 1 = 1 := by decide
        have wz2 : IntKind.i64.wrap 2 = 2 := by decide
        refine wp_region_held_drew (S := (fun W : World => W.cell? ⟨gb, 0, none⟩ = some (.int .i64 (j1 : Int)) ∧ W.cell? ⟨gb, 1, none⟩ = some (.int .i64 1) ∧ W.cell? ⟨b, off + j1 * 6 + 2, none⟩ = some (.int .i64 xc1))) (by kernel_rfl) z0 (fun hHeld => ?_)
        refine wpAnyH_take (i := 0) (v := .int .i64 0) rfl (by kernel_rfl) (by kernel_rfl) (by kernel_rfl) (fun _ _ _ h => hQp.out _ _ _ _ _ h) (Or.inl ⟨by kernel_rfl, fun W hSw => ?_⟩) (by assumption) ?_
        · (try dsimp only at hSw)
          go_simp
        (try simp only [Act.put, List.setIfInBounds_toArray, List.set_cons_zero, List.set_cons_succ])
        refine wpAnyH_take (i := 1) (v := .int .i64 1) rfl (by kernel_rfl) (by kernel_rfl) (by kernel_rfl) (fun _ _ _ h => hQp.out _ _ _ _ _ h) (Or.inl ⟨by kernel_rfl, fun W hSw => ?_⟩) (by assumption) ?_
        · (try dsimp only at hSw)
          go_simp
        (try simp only [Act.put, List.setIfInBounds_toArray, List.set_cons_zero, List.set_cons_succ])
        refine wpAnyH_take (i := 2) (v := .int .i64 0) rfl (by kernel_rfl) (by kernel_rfl) (by kernel_rfl) (fun _ _ _ h => hQp.out _ _ _ _ _ h) (Or.inl ⟨by kernel_rfl, fun W hSw => ?_⟩) (by assumption) ?_
        · (try dsimp only at hSw)
          go_simp
        (try simp only [Act.put, List.setIfInBounds_toArray, List.set_cons_zero, List.set_cons_succ])
        refine wpAnyH_take (i := 3) (v := .int .i64 1) rfl (by kernel_rfl) (by kernel_rfl) (by kernel_rfl) (fun _ _ _ h => hQp.out _ _ _ _ _ h) (Or.inl ⟨by kernel_rfl, fun W hSw => ?_⟩) (by assumption) ?_
        · (try dsimp only at hSw)
          go_simp
        (try simp only [Act.put, List.setIfInBounds_toArray, List.set_cons_zero, List.set_cons_succ])
        refine wpAnyH_take (i := 4) (v := .pointer (some ⟨gb, 0, none⟩)) rfl (by kernel_rfl) (by kernel_rfl) (by kernel_rfl) (fun _ _ _ h => hQp.out _ _ _ _ _ h) (Or.inl ⟨by kernel_rfl, fun W hSw => ?_⟩) (by assumption) ?_
        · (try dsimp only at hSw)
          go_simp
        (try simp only [Act.put, List.setIfInBounds_toArray, List.set_cons_zero, List.set_cons_succ])
        refine wpAnyH_take (i := 5) (v := .int .i64 (j1 : Int)) rfl (by kernel_rfl) (by kernel_rfl) (by kernel_rfl) (fun _ _ _ h => hQp.out _ _ _ _ _ h) (Or.inl ⟨by kernel_rfl, fun W hSw => ?_⟩) (by assumption) ?_
        · (try dsimp only at hSw)
          go_simp
        (try simp only [Act.put, List.setIfInBounds_toArray, List.set_cons_zero, List.set_cons_succ])
        refine wpAnyH_take (i := 6) (v := .slice (some ⟨b, off, none⟩) cn k5) rfl (by kernel_rfl) (by kernel_rfl) (by kernel_rfl) (fun _ _ _ h => hQp.out _ _ _ _ _ h) (Or.inl ⟨by kernel_rfl, fun W hSw => ?_⟩) (by assumption) ?_
        · (try dsimp only at hSw)
          go_simp
        (try simp only [Act.put, List.setIfInBounds_toArray, List.set_cons_zero, List.set_cons_succ])
        refine wpAnyH_take (i := 7) (v := .pointer (some ⟨gb, 0, none⟩)) rfl (by kernel_rfl) (by kernel_rfl) (by kernel_rfl) (fun _ _ _ h => hQp.out _ _ _ _ _ h) (Or.inl ⟨by kernel_rfl, fun W hSw => ?_⟩) (by assumption) ?_
        · (try dsimp only at hSw)
          go_simp
        (try simp only [Act.put, List.setIfInBounds_toArray, List.set_cons_zero, List.set_cons_succ])
        refine wpAnyH_take (i := 8) (v := .int .i64 (j1 : Int)) rfl (by kernel_rfl) (by kernel_rfl) (by kernel_rfl) (fun _ _ _ h => hQp.out _ _ _ _ _ h) (Or.inl ⟨by kernel_rfl, fun W hSw => ?_⟩) (by assumption) ?_
        · (try dsimp only at hSw)
          go_simp
        (try simp only [Act.put, List.setIfInBounds_toArray, List.set_cons_zero, List.set_cons_succ])
        refine wpAnyH_take (i := 9) (v := .pointer (some ⟨gb, 1, none⟩)) rfl (by kernel_rfl) (by kernel_rfl) (by kernel_rfl) (fun _ _ _ h => hQp.out _ _ _ _ _ h) (Or.inl ⟨by kernel_rfl, fun W hSw => ?_⟩) (by assumption) ?_
        · (try dsimp only at hSw)
          go_simp
        (try simp only [Act.put, List.setIfInBounds_toArray, List.set_cons_zero, List.set_cons_succ])
        refine wpAnyH_take (i := 10) (v := .int .i64 1) rfl (by kernel_rfl) (by kernel_rfl) (by kernel_rfl) (fun _ _ _ h => hQp.out _ _ _ _ _ h) (Or.inl ⟨by kernel_rfl, fun W hSw => ?_⟩) (by assumption) ?_
        · (try dsimp only at hSw)
          go_simp
        (try simp only [Act.put, List.setIfInBounds_toArray, List.set_cons_zero, List.set_cons_succ])
        refine wpAnyH_take (i := 11) (v := .int .i64 0) rfl (by kernel_rfl) (by kernel_rfl) (by kernel_rfl) (fun _ _ _ h => hQp.out _ _ _ _ _ h) (Or.inl ⟨by kernel_rfl, fun W hSw => ?_⟩) (by assumption) ?_
        · (try dsimp only at hSw)
          go_simp
        (try simp only [Act.put, List.setIfInBounds_toArray, List.set_cons_zero, List.set_cons_succ])
        refine wpAnyH_take (i := 12) (v := .pointer (some ⟨b, off + j1 * 6, none⟩)) rfl (by kernel_rfl) (by kernel_rfl) (by kernel_rfl) (fun _ _ _ h => hQp.out _ _ _ _ _ h) (Or.inl ⟨by kernel_rfl, fun W hSw => ?_⟩) (by assumption) ?_
        · (try dsimp only at hSw)
          go_simp
        (try simp only [Act.put, List.setIfInBounds_toArray, List.set_cons_zero, List.set_cons_succ])
        refine wpAnyH_take (i := 13) (v := .pointer (some ⟨b, off + j1 * 6 + 2, none⟩)) rfl (by kernel_rfl) (by kernel_rfl) (by kernel_rfl) (fun _ _ _ h => hQp.out _ _ _ _ _ h) (Or.inl ⟨by kernel_rfl, fun W hSw => ?_⟩) (by assumption) ?_
        · (try dsimp only at hSw)
          go_simp
        (try simp only [Act.put, List.setIfInBounds_toArray, List.set_cons_zero, List.set_cons_succ])
        refine wpAnyH_take (i := 14) (v := .pointer (some ⟨b, off + j1 * 6 + 2, none⟩)) rfl (by kernel_rfl) (by kernel_rfl) (by kernel_rfl) (fun _ _ _ h => hQp.out _ _ _ _ _ h) (Or.inl ⟨by kernel_rfl, fun W hSw => ?_⟩) (by assumption) ?_
        · (try dsimp only at hSw)
          go_simp
        (try simp only [Act.put, List.setIfInBounds_toArray, List.set_cons_zero, List.set_cons_succ])
        refine wpAnyH_take (i := 15) (v := .int .i64 xc1) rfl (by kernel_rfl) (by kernel_rfl) (by kernel_rfl) (fun _ _ _ h => hQp.out _ _ _ _ _ h) (Or.inl ⟨by kernel_rfl, fun W hSw => ?_⟩) (by assumption) ?_
        · (try dsimp only at hSw)
          go_simp
        (try simp only [Act.put, List.setIfInBounds_toArray, List.set_cons_zero, List.set_cons_succ])
        refine wpAnyH_take (i := 16) (v := .pointer (some ⟨ab, 1, none⟩)) rfl (by kernel_rfl) (by kernel_rfl) (by kernel_rfl) (fun _ _ _ h => hQp.out _ _ _ _ _ h) (Or.inl ⟨by kernel_rfl, fun W hSw => ?_⟩) (by assumption) ?_
        · (try dsimp only at hSw)
          go_simp
        (try simp only [Act.put, List.setIfInBounds_toArray, List.set_cons_zero, List.set_cons_succ])
        refine wpAnyH_ready (rs := [17]) (by kernel_rfl) (by simp) ?_
        refine AllReadyH.cons rfl (fun K hK => ?_) AllReadyH.nil
        go_simp
        rw [eWa.out]
        refine hK.out _ _ z1 (fun hHeld => ?_)
        clear hK K
        (try simp only [Act.put, List.setIfInBounds_toArray, List.set_cons_zero, List.set_cons_succ])
        refine wpAnyH_take (i := 18) (v := .pointer (some ⟨qb, 1, none⟩)) rfl (by kernel_rfl) (by kernel_rfl) (by kernel_rfl) (fun _ _ _ h => hQp.out _ _ _ _ _ h) (Or.inl ⟨by kernel_rfl, fun W hSw => ?_⟩) (by assumption) ?_
        · (try dsimp only at hSw)
          go_simp
        (try simp only [Act.put, List.setIfInBounds_toArray, List.set_cons_zero, List.set_cons_succ])
        refine wpAnyH_ready (rs := [19]) (by kernel_rfl) (by simp) ?_
        refine AllReadyH.cons rfl (fun K hK => ?_) AllReadyH.nil
        go_simp
        rw [eW3.out]
        refine hK.out _ _ z2 (fun hHeld => ?_)
        clear hK K
        (try simp only [Act.put, List.setIfInBounds_toArray, List.set_cons_zero, List.set_cons_succ])
        refine wpAnyH_done (by kernel_rfl) ?_ _
        (try simp only [List.getElem_toArray, List.getElem_cons_succ, List.getElem_cons_zero, Act.put, List.setIfInBounds_toArray, List.set_cons_zero, List.set_cons_succ])
        clear wz0 wz1 wz2 z0 z1 z2 f1 f2 c1 c2 h0 h1 q1 bne bnq hga hgq hHeld eWa eW3
        go_wp2_with fail
        go_roundw
        case rel => exact .inr (.inl ⟨by first | rfl | trivial | go_num, ha3, hb3, B3⟩)
        case measure => simp [intOf]
      · skip
        obtain ⟨b, off, e5, t0, t1, t2, t3, t4, t5⟩ := (hT.out wr hB.out).atT hx1.out
        obtain ⟨bq, offq, eq, y0, y1, y2, y3, y4, y5⟩ := (hQ.out wr hB.out).atQ hq.out
        subst e5
        subst eq
        simp only at t0 t1 t2 t3 t4 t5 y0 y1 y2 y3 y4 y5
        have hh := hh1
        have hr := hr1
        have hn := hn1
        simp only [Tp.has, Tp.price, Tp.qty, if_neg (show ¬ ((2 : Int) = 1) by decide)] at hh hr hn
        subst hh
        subst hr
        have hj := hj1
        have dj1 : decide ((j1 : Int) < 0) = false := decide_eq_false (by omega)
        have dj2 : decide ((cn : Int) ≤ (j1 : Int)) = false := decide_eq_false (by omega)
        have dj2' : decide (cn ≤ j1) = false := decide_eq_false (by omega)
        have dj3 : decide ((j1 : Int) < (cn : Int)) = true := decide_eq_true (by omega)
        have dj4 : (j1 : Int) < (cn : Int) := by omega
        have di3 : decide ((i : Int) < (nq : Int)) = true := decide_eq_true (by omega)
        have di4 : (i : Int) < (nq : Int) := by omega
        obtain ⟨gb, egb⟩ : ∃ x, wr.heap.size = x := ⟨_, rfl⟩
        obtain ⟨W1, eW1⟩ : ∃ W, wr.alloc (.cells #[.int .i64 (j1 : Int), .int .i64 2] 34) = W := ⟨_, rfl⟩
        have hg1 : W1.heap[gb]? = some (.cells #[.int .i64 (j1 : Int), .int .i64 2] 34 (0, 0)) := by rw [← eW1, ← egb]; exact heap_alloc_new wr _
        have bw1 : Below wr.heap.size wr W1 := by rw [← eW1]; exact (Below.refl _ wr).alloc (Nat.le_refl _) _
        have g0 : W1.cell? ⟨gb, 0, none⟩ = some (.int .i64 (j1 : Int)) := by rw [Lib.cell_of_heap hg1]; rfl
        have g1 : W1.cell? ⟨gb, 1, none⟩ = some (.int .i64 2) := by rw [Lib.cell_of_heap hg1]; rfl
        have hgB : Hid (gb ≠ ab ∧ gb ≠ qb) := Lib.hid ⟨by have := (Array.getElem?_eq_some_iff.1 ha.out).1; omega, by have := (Array.getElem?_eq_some_iff.1 hb.out).1; omega⟩
        have hbB : Hid (b ≠ ab ∧ b ≠ qb) := Lib.hid (hTB.out _ rfl)
        have hwr := hB.out.size
        have u0 := (bw1.cell (p := ⟨b, off + j1 * 6 + 1, none⟩) (World.block_lt_of_cell? wr _ t1)).trans t1
        have u1 := (bw1.cell (p := ⟨b, off + j1 * 6 + 3, none⟩) (World.block_lt_of_cell? wr _ t3)).trans t3
        have u2 := (bw1.cell (p := ⟨b, off + j1 * 6 + 5, none⟩) (World.block_lt_of_cell? wr _ t5)).trans t5
        have v1 := (bw1.cell (p := ⟨bq, offq + i * 6 + 1, none⟩) (World.block_lt_of_cell? wr _ y1)).trans y1
        have ha1 := (bw1.block ab (Array.getElem?_eq_some_iff.1 ha.out).1).trans ha.out
        have hb1 := (bw1.block qb (Array.getElem?_eq_some_iff.1 hb.out).1).trans hb.out
        have B1 : Below B w3 W1 := hB.out.trans (bw1.mono (Nat.le_trans hBs hwr))
        replace hg1 := Lib.hid hg1
        replace ha1 := Lib.hid ha1
        replace hb1 := Lib.hid hb1
        replace B1 := Lib.hid B1
        replace eW1 := Lib.hid eW1
        replace egb := Lib.hid egb
        clear bw1 t0 t1 t2 t3 t4 t5 hwr
        go_upto_region 18 with (fail)
        rw [eW1.out, egb.out]
        clear eW1 egb y0 y1 y2 y3 y4 y5
        have dq : decide (xf1 < qn) = false := decide_eq_false (by omega)
        go_quiet (fail)
        go_upto_region 20 with (fail)
        rename Nat => dq
        obtain ⟨W2, eW2⟩ : ∃ W, W1.drewN dq = W := ⟨_, rfl⟩
        have bw2 : Below W1.heap.size W1 W2 := by rw [← eW2]; exact below_drewN (Below.refl _ _) _
        rw [eW2]
        have ha2 := (bw2.block ab (Array.getElem?_eq_some_iff.1 ha1.out).1).trans ha1.out
        have hb2 := (bw2.block qb (Array.getElem?_eq_some_iff.1 hb1.out).1).trans hb1.out
        have hg2 := (bw2.block gb (Array.getElem?_eq_some_iff.1 hg1.out).1).trans hg1.out
        have B2 : Below B w3 W2 := B1.out.trans (bw2.mono (Nat.le_trans hBs B1.out.size))
        have h0 : W2.cell? ⟨gb, 0, none⟩ = some (.int .i64 (j1 : Int)) := by rw [Lib.cell_of_heap hg2]; rfl
        have h1 : W2.cell? ⟨gb, 1, none⟩ = some (.int .i64 2) := by rw [Lib.cell_of_heap hg2]; rfl
        have q1 := (bw2.cell (p := ⟨b, off + j1 * 6 + 3, none⟩) (World.block_lt_of_cell? W1 _ u1)).trans u1
        have f1 := Lib.frozen_of_heap ha2 1
        have c1 : W2.cell? ⟨ab, 1, none⟩ = some (.int .i64 0) := by rw [Lib.cell_of_heap ha2]; rfl
        have s1 := heap_setCell_same W2 ab 1 _ 46 (.int .i64 (j1 : Int)) ha2
        have on1 := set_only W2 ab 1 (.int .i64 (j1 : Int))
        obtain ⟨Wa, eWa⟩ : ∃ W, (W2.setCell ⟨ab, 1, none⟩ (.int .i64 (j1 : Int))).drew = W := ⟨_, rfl⟩
        have on1' : Only (fun k => k = ab) W2 Wa := by rw [← eWa]; exact on1.trans ((Only.refl _ _).drewN 1)
        have s1' : Wa.heap[ab]? = some (.cells #[.int .i64 k, .int .i64 (j1 : Int), .int .i64 0] 46 (0, 0)) := by rw [← eWa]; exact s1
        have s2 : Wa.heap[qb]? = some (.cells #[.int .i64 qp, .int .i64 0, .int .i64 0] 47 (0, 0)) := (on1'.block qb (Array.getElem?_eq_some_iff.1 hb2).1 (fun e => hne e.symm)).trans hb2
        have f2 := Lib.frozen_of_heap s2 1
        have c2 : Wa.cell? ⟨qb, 1, none⟩ = some (.int .i64 0) := by rw [Lib.cell_of_heap s2]; rfl
        have s3 := heap_setCell_same Wa qb 1 _ 47 (.int .i64 xd1) s2
        have on2 := set_only Wa qb 1 (.int .i64 xd1)
        have s4 := (on2.block ab (Array.getElem?_eq_some_iff.1 s1').1 hne).trans s1'
        have B3 : Below B w3 (Wa.setCell ⟨qb, 1, none⟩ (.int .i64 xd1)) := (B2.trans (on1'.below (Nat.le_trans hBs B2.size) (fun k hk e => by omega))).trans (on2.below (Nat.le_trans (Nat.le_trans hBs B2.size) on1'.size) (fun k hk e => by omega))
        have bne : b ≠ ab := fun e => hbB.out.1 e
        have bnq : b ≠ qb := fun e => hbB.out.2 e
        obtain ⟨W3, eW3⟩ : ∃ W, Wa.setCell ⟨qb, 1, none⟩ (.int .i64 xd1) = W := ⟨_, rfl⟩
        have hga : gb ≠ ab := hgB.out.1
        have hgq : gb ≠ qb := hgB.out.2
        have z0 : (fun W : World => W.cell? ⟨gb, 0, none⟩ = some (.int .i64 (j1 : Int)) ∧ W.cell? ⟨gb, 1, none⟩ = some (.int .i64 2) ∧ W.cell? ⟨b, off + j1 * 6 + 3, none⟩ = some (.int .i64 xd1)) W2.drew := ⟨h0, h1, q1⟩
        have z1 : (fun W : World => W.cell? ⟨gb, 0, none⟩ = some (.int .i64 (j1 : Int)) ∧ W.cell? ⟨gb, 1, none⟩ = some (.int .i64 2) ∧ W.cell? ⟨b, off + j1 * 6 + 3, none⟩ = some (.int .i64 xd1)) Wa := ⟨on1'.cell h0 hga, on1'.cell h1 hga, on1'.cell q1 bne⟩
        have z2 : (fun W : World => W.cell? ⟨gb, 0, none⟩ = some (.int .i64 (j1 : Int)) ∧ W.cell? ⟨gb, 1, none⟩ = some (.int .i64 2) ∧ W.cell? ⟨b, off + j1 * 6 + 3, none⟩ = some (.int .i64 xd1)) W3 := by rw [← eW3]; exact ⟨on2.cell z1.1 hgq, on2.cell z1.2.1 hgq, on2.cell z1.2.2 bnq⟩
        have ha3 : Hid (W3.heap[ab]? = some (.cells #[.int .i64 k, .int .i64 (j1 : Int), .int .i64 0] 46 (0, 0))) := Lib.hid (by rw [← eW3]; exact s4)
        have hb3 : Hid (W3.heap[qb]? = some (.cells #[.int .i64 qp, .int .i64 xd1, .int .i64 0] 47 (0, 0))) := Lib.hid (by rw [← eW3]; exact s3)
        rw [eW3] at B3
        replace B3 := Lib.hid B3
        replace eW3 := Lib.hid eW3
        replace eWa := Lib.hid eWa
        replace eW2 := Lib.hid eW2
        clear ha2 hb2 hg2 B2 bw2 s1 s1' s2 s3 s4 on1 on1' on2 u0 u1 u2 v1 ha1 hb1 hg1 B1 g0 g1 ha hb hB eW2
        have wz0 : IntKind.i64.wrap 0 = 0 := by decide
        have wz1 : IntKind.i64.wrap 1 = 1 := by decide
        have wz2 : IntKind.i64.wrap 2 = 2 := by decide
        refine wp_region_held_drew (S := (fun W : World => W.cell? ⟨gb, 0, none⟩ = some (.int .i64 (j1 : Int)) ∧ W.cell? ⟨gb, 1, none⟩ = some (.int .i64 2) ∧ W.cell? ⟨b, off + j1 * 6 + 3, none⟩ = some (.int .i64 xd1))) (by kernel_rfl) z0 (fun hHeld => ?_)
        refine wpAnyH_take (i := 0) (v := .int .i64 0) rfl (by kernel_rfl) (by kernel_rfl) (by kernel_rfl) (fun _ _ _ h => hQp.out _ _ _ _ _ h) (Or.inl ⟨by kernel_rfl, fun W hSw => ?_⟩) (by assumption) ?_
        · (try dsimp only at hSw)
          go_simp
        (try simp only [Act.put, List.setIfInBounds_toArray, List.set_cons_zero, List.set_cons_succ])
        refine wpAnyH_take (i := 1) (v := .int .i64 1) rfl (by kernel_rfl) (by kernel_rfl) (by kernel_rfl) (fun _ _ _ h => hQp.out _ _ _ _ _ h) (Or.inl ⟨by kernel_rfl, fun W hSw => ?_⟩) (by assumption) ?_
        · (try dsimp only at hSw)
          go_simp
        (try simp only [Act.put, List.setIfInBounds_toArray, List.set_cons_zero, List.set_cons_succ])
        refine wpAnyH_take (i := 2) (v := .int .i64 0) rfl (by kernel_rfl) (by kernel_rfl) (by kernel_rfl) (fun _ _ _ h => hQp.out _ _ _ _ _ h) (Or.inl ⟨by kernel_rfl, fun W hSw => ?_⟩) (by assumption) ?_
        · (try dsimp only at hSw)
          go_simp
        (try simp only [Act.put, List.setIfInBounds_toArray, List.set_cons_zero, List.set_cons_succ])
        refine wpAnyH_take (i := 3) (v := .int .i64 1) rfl (by kernel_rfl) (by kernel_rfl) (by kernel_rfl) (fun _ _ _ h => hQp.out _ _ _ _ _ h) (Or.inl ⟨by kernel_rfl, fun W hSw => ?_⟩) (by assumption) ?_
        · (try dsimp only at hSw)
          go_simp
        (try simp only [Act.put, List.setIfInBounds_toArray, List.set_cons_zero, List.set_cons_succ])
        refine wpAnyH_take (i := 4) (v := .pointer (some ⟨gb, 0, none⟩)) rfl (by kernel_rfl) (by kernel_rfl) (by kernel_rfl) (fun _ _ _ h => hQp.out _ _ _ _ _ h) (Or.inl ⟨by kernel_rfl, fun W hSw => ?_⟩) (by assumption) ?_
        · (try dsimp only at hSw)
          go_simp
        (try simp only [Act.put, List.setIfInBounds_toArray, List.set_cons_zero, List.set_cons_succ])
        refine wpAnyH_take (i := 5) (v := .int .i64 (j1 : Int)) rfl (by kernel_rfl) (by kernel_rfl) (by kernel_rfl) (fun _ _ _ h => hQp.out _ _ _ _ _ h) (Or.inl ⟨by kernel_rfl, fun W hSw => ?_⟩) (by assumption) ?_
        · (try dsimp only at hSw)
          go_simp
        (try simp only [Act.put, List.setIfInBounds_toArray, List.set_cons_zero, List.set_cons_succ])
        refine wpAnyH_take (i := 6) (v := .slice (some ⟨b, off, none⟩) cn k5) rfl (by kernel_rfl) (by kernel_rfl) (by kernel_rfl) (fun _ _ _ h => hQp.out _ _ _ _ _ h) (Or.inl ⟨by kernel_rfl, fun W hSw => ?_⟩) (by assumption) ?_
        · (try dsimp only at hSw)
          go_simp
        (try simp only [Act.put, List.setIfInBounds_toArray, List.set_cons_zero, List.set_cons_succ])
        refine wpAnyH_take (i := 7) (v := .pointer (some ⟨gb, 0, none⟩)) rfl (by kernel_rfl) (by kernel_rfl) (by kernel_rfl) (fun _ _ _ h => hQp.out _ _ _ _ _ h) (Or.inl ⟨by kernel_rfl, fun W hSw => ?_⟩) (by assumption) ?_
        · (try dsimp only at hSw)
          go_simp
        (try simp only [Act.put, List.setIfInBounds_toArray, List.set_cons_zero, List.set_cons_succ])
        refine wpAnyH_take (i := 8) (v := .int .i64 (j1 : Int)) rfl (by kernel_rfl) (by kernel_rfl) (by kernel_rfl) (fun _ _ _ h => hQp.out _ _ _ _ _ h) (Or.inl ⟨by kernel_rfl, fun W hSw => ?_⟩) (by assumption) ?_
        · (try dsimp only at hSw)
          go_simp
        (try simp only [Act.put, List.setIfInBounds_toArray, List.set_cons_zero, List.set_cons_succ])
        refine wpAnyH_take (i := 9) (v := .pointer (some ⟨gb, 1, none⟩)) rfl (by kernel_rfl) (by kernel_rfl) (by kernel_rfl) (fun _ _ _ h => hQp.out _ _ _ _ _ h) (Or.inl ⟨by kernel_rfl, fun W hSw => ?_⟩) (by assumption) ?_
        · (try dsimp only at hSw)
          go_simp
        (try simp only [Act.put, List.setIfInBounds_toArray, List.set_cons_zero, List.set_cons_succ])
        refine wpAnyH_take (i := 10) (v := .int .i64 2) rfl (by kernel_rfl) (by kernel_rfl) (by kernel_rfl) (fun _ _ _ h => hQp.out _ _ _ _ _ h) (Or.inl ⟨by kernel_rfl, fun W hSw => ?_⟩) (by assumption) ?_
        · (try dsimp only at hSw)
          go_simp
        (try simp only [Act.put, List.setIfInBounds_toArray, List.set_cons_zero, List.set_cons_succ])
        refine wpAnyH_take (i := 11) (v := .int .i64 1) rfl (by kernel_rfl) (by kernel_rfl) (by kernel_rfl) (fun _ _ _ h => hQp.out _ _ _ _ _ h) (Or.inl ⟨by kernel_rfl, fun W hSw => ?_⟩) (by assumption) ?_
        · (try dsimp only at hSw)
          go_simp
        (try simp only [Act.put, List.setIfInBounds_toArray, List.set_cons_zero, List.set_cons_succ])
        refine wpAnyH_take (i := 12) (v := .pointer (some ⟨b, off + j1 * 6, none⟩)) rfl (by kernel_rfl) (by kernel_rfl) (by kernel_rfl) (fun _ _ _ h => hQp.out _ _ _ _ _ h) (Or.inl ⟨by kernel_rfl, fun W hSw => ?_⟩) (by assumption) ?_
        · (try dsimp only at hSw)
          go_simp
        (try simp only [Act.put, List.setIfInBounds_toArray, List.set_cons_zero, List.set_cons_succ])
        refine wpAnyH_take (i := 13) (v := .pointer (some ⟨b, off + j1 * 6 + 2, none⟩)) rfl (by kernel_rfl) (by kernel_rfl) (by kernel_rfl) (fun _ _ _ h => hQp.out _ _ _ _ _ h) (Or.inl ⟨by kernel_rfl, fun W hSw => ?_⟩) (by assumption) ?_
        · (try dsimp only at hSw)
          go_simp
        (try simp only [Act.put, List.setIfInBounds_toArray, List.set_cons_zero, List.set_cons_succ])
        refine wpAnyH_take (i := 14) (v := .pointer (some ⟨b, off + j1 * 6 + 3, none⟩)) rfl (by kernel_rfl) (by kernel_rfl) (by kernel_rfl) (fun _ _ _ h => hQp.out _ _ _ _ _ h) (Or.inl ⟨by kernel_rfl, fun W hSw => ?_⟩) (by assumption) ?_
        · (try dsimp only at hSw)
          go_simp
        (try simp only [Act.put, List.setIfInBounds_toArray, List.set_cons_zero, List.set_cons_succ])
        refine wpAnyH_take (i := 15) (v := .int .i64 xd1) rfl (by kernel_rfl) (by kernel_rfl) (by kernel_rfl) (fun _ _ _ h => hQp.out _ _ _ _ _ h) (Or.inl ⟨by kernel_rfl, fun W hSw => ?_⟩) (by assumption) ?_
        · (try dsimp only at hSw)
          go_simp
        (try simp only [Act.put, List.setIfInBounds_toArray, List.set_cons_zero, List.set_cons_succ])
        refine wpAnyH_take (i := 16) (v := .pointer (some ⟨ab, 1, none⟩)) rfl (by kernel_rfl) (by kernel_rfl) (by kernel_rfl) (fun _ _ _ h => hQp.out _ _ _ _ _ h) (Or.inl ⟨by kernel_rfl, fun W hSw => ?_⟩) (by assumption) ?_
        · (try dsimp only at hSw)
          go_simp
        (try simp only [Act.put, List.setIfInBounds_toArray, List.set_cons_zero, List.set_cons_succ])
        refine wpAnyH_ready (rs := [17]) (by kernel_rfl) (by simp) ?_
        refine AllReadyH.cons rfl (fun K hK => ?_) AllReadyH.nil
        go_simp
        rw [eWa.out]
        refine hK.out _ _ z1 (fun hHeld => ?_)
        clear hK K
        (try simp only [Act.put, List.setIfInBounds_toArray, List.set_cons_zero, List.set_cons_succ])
        refine wpAnyH_take (i := 18) (v := .pointer (some ⟨qb, 1, none⟩)) rfl (by kernel_rfl) (by kernel_rfl) (by kernel_rfl) (fun _ _ _ h => hQp.out _ _ _ _ _ h) (Or.inl ⟨by kernel_rfl, fun W hSw => ?_⟩) (by assumption) ?_
        · (try dsimp only at hSw)
          go_simp
        (try simp only [Act.put, List.setIfInBounds_toArray, List.set_cons_zero, List.set_cons_succ])
        refine wpAnyH_ready (rs := [19]) (by kernel_rfl) (by simp) ?_
        refine AllReadyH.cons rfl (fun K hK => ?_) AllReadyH.nil
        go_simp
        rw [eW3.out]
        refine hK.out _ _ z2 (fun hHeld => ?_)
        clear hK K
        (try simp only [Act.put, List.setIfInBounds_toArray, List.set_cons_zero, List.set_cons_succ])
        refine wpAnyH_done (by kernel_rfl) ?_ _
        (try simp only [List.getElem_toArray, List.getElem_cons_succ, List.getElem_cons_zero, Act.put, List.setIfInBounds_toArray, List.set_cons_zero, List.set_cons_succ])
        clear wz0 wz1 wz2 z0 z1 z2 f1 f2 c1 c2 h0 h1 q1 bne bnq hga hgq hHeld eWa eW3
        go_wp2_with fail
        go_roundw
        case rel => exact .inr (.inl ⟨by first | rfl | trivial | go_num, ha3, hb3, B3⟩)
        case measure => simp [intOf]
    · skip
      rcases hs2 with rfl | rfl
      · skip
        obtain ⟨b, off, e5, t0, t1, t2, t3, t4, t5⟩ := (hT.out wr hB.out).atT hx2.out
        obtain ⟨bq, offq, eq, y0, y1, y2, y3, y4, y5⟩ := (hQ.out wr hB.out).atQ hq.out
        subst e5
        subst eq
        simp only at t0 t1 t2 t3 t4 t5 y0 y1 y2 y3 y4 y5
        have hh := hh2
        have hr := hr2
        have hn := hn2
        simp only [Tp.has, Tp.price, Tp.qty, if_true] at hh hr hn
        subst hh
        subst hr
        have hj := hj2
        have dj1 : decide ((j2 : Int) < 0) = false := decide_eq_false (by omega)
        have dj2 : decide ((cn : Int) ≤ (j2 : Int)) = false := decide_eq_false (by omega)
        have dj2' : decide (cn ≤ j2) = false := decide_eq_false (by omega)
        have dj3 : decide ((j2 : Int) < (cn : Int)) = true := decide_eq_true (by omega)
        have dj4 : (j2 : Int) < (cn : Int) := by omega
        have di3 : decide ((i : Int) < (nq : Int)) = true := decide_eq_true (by omega)
        have di4 : (i : Int) < (nq : Int) := by omega
        obtain ⟨gb, egb⟩ : ∃ x, wr.heap.size = x := ⟨_, rfl⟩
        obtain ⟨W1, eW1⟩ : ∃ W, wr.alloc (.cells #[.int .i64 (j2 : Int), .int .i64 1] 34) = W := ⟨_, rfl⟩
        have hg1 : W1.heap[gb]? = some (.cells #[.int .i64 (j2 : Int), .int .i64 1] 34 (0, 0)) := by rw [← eW1, ← egb]; exact heap_alloc_new wr _
        have bw1 : Below wr.heap.size wr W1 := by rw [← eW1]; exact (Below.refl _ wr).alloc (Nat.le_refl _) _
        have g0 : W1.cell? ⟨gb, 0, none⟩ = some (.int .i64 (j2 : Int)) := by rw [Lib.cell_of_heap hg1]; rfl
        have g1 : W1.cell? ⟨gb, 1, none⟩ = some (.int .i64 1) := by rw [Lib.cell_of_heap hg1]; rfl
        have hgB : Hid (gb ≠ ab ∧ gb ≠ qb) := Lib.hid ⟨by have := (Array.getElem?_eq_some_iff.1 ha.out).1; omega, by have := (Array.getElem?_eq_some_iff.1 hb.out).1; omega⟩
        have hbB : Hid (b ≠ ab ∧ b ≠ qb) := Lib.hid (hTB.out _ rfl)
        have hwr := hB.out.size
        have u0 := (bw1.cell (p := ⟨b, off + j2 * 6, none⟩) (World.block_lt_of_cell? wr _ t0)).trans t0
        have u1 := (bw1.cell (p := ⟨b, off + j2 * 6 + 2, none⟩) (World.block_lt_of_cell? wr _ t2)).trans t2
        have u2 := (bw1.cell (p := ⟨b, off + j2 * 6 + 4, none⟩) (World.block_lt_of_cell? wr _ t4)).trans t4
        have v1 := (bw1.cell (p := ⟨bq, offq + i * 6 + 1, none⟩) (World.block_lt_of_cell? wr _ y1)).trans y1
        have ha1 := (bw1.block ab (Array.getElem?_eq_some_iff.1 ha.out).1).trans ha.out
        have hb1 := (bw1.block qb (Array.getElem?_eq_some_iff.1 hb.out).1).trans hb.out
        have B1 : Below B w3 W1 := hB.out.trans (bw1.mono (Nat.le_trans hBs hwr))
        replace hg1 := Lib.hid hg1
        replace ha1 := Lib.hid ha1
        replace hb1 := Lib.hid hb1
        replace B1 := Lib.hid B1
        replace eW1 := Lib.hid eW1
        replace egb := Lib.hid egb
        clear bw1 t0 t1 t2 t3 t4 t5 hwr
        go_upto_region 18 with (fail)
        rw [eW1.out, egb.out]
        clear eW1 egb y0 y1 y2 y3 y4 y5
        have dq : decide (xe2 < qn) = false := decide_eq_false (by omega)
        go_quiet (fail)
        go_upto_region 20 with (fail)
        rename Nat => dq
        obtain ⟨W2, eW2⟩ : ∃ W, W1.drewN dq = W := ⟨_, rfl⟩
        have bw2 : Below W1.heap.size W1 W2 := by rw [← eW2]; exact below_drewN (Below.refl _ _) _
        rw [eW2]
        have ha2 := (bw2.block ab (Array.getElem?_eq_some_iff.1 ha1.out).1).trans ha1.out
        have hb2 := (bw2.block qb (Array.getElem?_eq_some_iff.1 hb1.out).1).trans hb1.out
        have hg2 := (bw2.block gb (Array.getElem?_eq_some_iff.1 hg1.out).1).trans hg1.out
        have B2 : Below B w3 W2 := B1.out.trans (bw2.mono (Nat.le_trans hBs B1.out.size))
        have h0 : W2.cell? ⟨gb, 0, none⟩ = some (.int .i64 (j2 : Int)) := by rw [Lib.cell_of_heap hg2]; rfl
        have h1 : W2.cell? ⟨gb, 1, none⟩ = some (.int .i64 1) := by rw [Lib.cell_of_heap hg2]; rfl
        have q1 := (bw2.cell (p := ⟨b, off + j2 * 6 + 2, none⟩) (World.block_lt_of_cell? W1 _ u1)).trans u1
        have f1 := Lib.frozen_of_heap ha2 2
        have c1 : W2.cell? ⟨ab, 2, none⟩ = some (.int .i64 0) := by rw [Lib.cell_of_heap ha2]; rfl
        have s1 := heap_setCell_same W2 ab 2 _ 46 (.int .i64 (j2 : Int)) ha2
        have on1 := set_only W2 ab 2 (.int .i64 (j2 : Int))
        obtain ⟨Wa, eWa⟩ : ∃ W, (W2.setCell ⟨ab, 2, none⟩ (.int .i64 (j2 : Int))).drew = W := ⟨_, rfl⟩
        have on1' : Only (fun k => k = ab) W2 Wa := by rw [← eWa]; exact on1.trans ((Only.refl _ _).drewN 1)
        have s1' : Wa.heap[ab]? = some (.cells #[.int .i64 k, .int .i64 (j1 : Int), .int .i64 (j2 : Int)] 46 (0, 0)) := by rw [← eWa]; exact s1
        have s2 : Wa.heap[qb]? = some (.cells #[.int .i64 qp, .int .i64 r1, .int .i64 0] 47 (0, 0)) := (on1'.block qb (Array.getElem?_eq_some_iff.1 hb2).1 (fun e => hne e.symm)).trans hb2
        have f2 := Lib.frozen_of_heap s2 2
        have c2 : Wa.cell? ⟨qb, 2, none⟩ = some (.int .i64 0) := by rw [Lib.cell_of_heap s2]; rfl
        have s3 := heap_setCell_same Wa qb 2 _ 47 (.int .i64 xc2) s2
        have on2 := set_only Wa qb 2 (.int .i64 xc2)
        have s4 := (on2.block ab (Array.getElem?_eq_some_iff.1 s1').1 hne).trans s1'
        have B3 : Below B w3 (Wa.setCell ⟨qb, 2, none⟩ (.int .i64 xc2)) := (B2.trans (on1'.below (Nat.le_trans hBs B2.size) (fun k hk e => by omega))).trans (on2.below (Nat.le_trans (Nat.le_trans hBs B2.size) on1'.size) (fun k hk e => by omega))
        have bne : b ≠ ab := fun e => hbB.out.1 e
        have bnq : b ≠ qb := fun e => hbB.out.2 e
        obtain ⟨W3, eW3⟩ : ∃ W, Wa.setCell ⟨qb, 2, none⟩ (.int .i64 xc2) = W := ⟨_, rfl⟩
        have hga : gb ≠ ab := hgB.out.1
        have hgq : gb ≠ qb := hgB.out.2
        have z0 : (fun W : World => W.cell? ⟨gb, 0, none⟩ = some (.int .i64 (j2 : Int)) ∧ W.cell? ⟨gb, 1, none⟩ = some (.int .i64 1) ∧ W.cell? ⟨b, off + j2 * 6 + 2, none⟩ = some (.int .i64 xc2)) W2.drew := ⟨h0, h1, q1⟩
        have z1 : (fun W : World => W.cell? ⟨gb, 0, none⟩ = some (.int .i64 (j2 : Int)) ∧ W.cell? ⟨gb, 1, none⟩ = some (.int .i64 1) ∧ W.cell? ⟨b, off + j2 * 6 + 2, none⟩ = some (.int .i64 xc2)) Wa := ⟨on1'.cell h0 hga, on1'.cell h1 hga, on1'.cell q1 bne⟩
        have z2 : (fun W : World => W.cell? ⟨gb, 0, none⟩ = some (.int .i64 (j2 : Int)) ∧ W.cell? ⟨gb, 1, none⟩ = some (.int .i64 1) ∧ W.cell? ⟨b, off + j2 * 6 + 2, none⟩ = some (.int .i64 xc2)) W3 := by rw [← eW3]; exact ⟨on2.cell z1.1 hgq, on2.cell z1.2.1 hgq, on2.cell z1.2.2 bnq⟩
        have ha3 : Hid (W3.heap[ab]? = some (.cells #[.int .i64 k, .int .i64 (j1 : Int), .int .i64 (j2 : Int)] 46 (0, 0))) := Lib.hid (by rw [← eW3]; exact s4)
        have hb3 : Hid (W3.heap[qb]? = some (.cells #[.int .i64 qp, .int .i64 r1, .int .i64 xc2] 47 (0, 0))) := Lib.hid (by rw [← eW3]; exact s3)
        rw [eW3] at B3
        replace B3 := Lib.hid B3
        replace eW3 := Lib.hid eW3
        replace eWa := Lib.hid eWa
        replace eW2 := Lib.hid eW2
        clear ha2 hb2 hg2 B2 bw2 s1 s1' s2 s3 s4 on1 on1' on2 u0 u1 u2 v1 ha1 hb1 hg1 B1 g0 g1 ha hb hB eW2
        have wz0 : IntKind.i64.wrap 0 = 0 := by decide
        have wz1 : IntKind.i64.wrap 1 = 1 := by decide
        have wz2 : IntKind.i64.wrap 2 = 2 := by decide
        refine wp_region_held_drew (S := (fun W : World => W.cell? ⟨gb, 0, none⟩ = some (.int .i64 (j2 : Int)) ∧ W.cell? ⟨gb, 1, none⟩ = some (.int .i64 1) ∧ W.cell? ⟨b, off + j2 * 6 + 2, none⟩ = some (.int .i64 xc2))) (by kernel_rfl) z0 (fun hHeld => ?_)
        refine wpAnyH_take (i := 0) (v := .int .i64 1) rfl (by kernel_rfl) (by kernel_rfl) (by kernel_rfl) (fun _ _ _ h => hQp.out _ _ _ _ _ h) (Or.inl ⟨by kernel_rfl, fun W hSw => ?_⟩) (by assumption) ?_
        · (try dsimp only at hSw)
          go_simp
        (try simp only [Act.put, List.setIfInBounds_toArray, List.set_cons_zero, List.set_cons_succ])
        refine wpAnyH_take (i := 1) (v := .int .i64 2) rfl (by kernel_rfl) (by kernel_rfl) (by kernel_rfl) (fun _ _ _ h => hQp.out _ _ _ _ _ h) (Or.inl ⟨by kernel_rfl, fun W hSw => ?_⟩) (by assumption) ?_
        · (try dsimp only at hSw)
          go_simp
        (try simp only [Act.put, List.setIfInBounds_toArray, List.set_cons_zero, List.set_cons_succ])
        refine wpAnyH_take (i := 2) (v := .int .i64 1) rfl (by kernel_rfl) (by kernel_rfl) (by kernel_rfl) (fun _ _ _ h => hQp.out _ _ _ _ _ h) (Or.inl ⟨by kernel_rfl, fun W hSw => ?_⟩) (by assumption) ?_
        · (try dsimp only at hSw)
          go_simp
        (try simp only [Act.put, List.setIfInBounds_toArray, List.set_cons_zero, List.set_cons_succ])
        refine wpAnyH_take (i := 3) (v := .int .i64 2) rfl (by kernel_rfl) (by kernel_rfl) (by kernel_rfl) (fun _ _ _ h => hQp.out _ _ _ _ _ h) (Or.inl ⟨by kernel_rfl, fun W hSw => ?_⟩) (by assumption) ?_
        · (try dsimp only at hSw)
          go_simp
        (try simp only [Act.put, List.setIfInBounds_toArray, List.set_cons_zero, List.set_cons_succ])
        refine wpAnyH_take (i := 4) (v := .pointer (some ⟨gb, 0, none⟩)) rfl (by kernel_rfl) (by kernel_rfl) (by kernel_rfl) (fun _ _ _ h => hQp.out _ _ _ _ _ h) (Or.inl ⟨by kernel_rfl, fun W hSw => ?_⟩) (by assumption) ?_
        · (try dsimp only at hSw)
          go_simp
        (try simp only [Act.put, List.setIfInBounds_toArray, List.set_cons_zero, List.set_cons_succ])
        refine wpAnyH_take (i := 5) (v := .int .i64 (j2 : Int)) rfl (by kernel_rfl) (by kernel_rfl) (by kernel_rfl) (fun _ _ _ h => hQp.out _ _ _ _ _ h) (Or.inl ⟨by kernel_rfl, fun W hSw => ?_⟩) (by assumption) ?_
        · (try dsimp only at hSw)
          go_simp
        (try simp only [Act.put, List.setIfInBounds_toArray, List.set_cons_zero, List.set_cons_succ])
        refine wpAnyH_take (i := 6) (v := .slice (some ⟨b, off, none⟩) cn k5) rfl (by kernel_rfl) (by kernel_rfl) (by kernel_rfl) (fun _ _ _ h => hQp.out _ _ _ _ _ h) (Or.inl ⟨by kernel_rfl, fun W hSw => ?_⟩) (by assumption) ?_
        · (try dsimp only at hSw)
          go_simp
        (try simp only [Act.put, List.setIfInBounds_toArray, List.set_cons_zero, List.set_cons_succ])
        refine wpAnyH_take (i := 7) (v := .pointer (some ⟨gb, 0, none⟩)) rfl (by kernel_rfl) (by kernel_rfl) (by kernel_rfl) (fun _ _ _ h => hQp.out _ _ _ _ _ h) (Or.inl ⟨by kernel_rfl, fun W hSw => ?_⟩) (by assumption) ?_
        · (try dsimp only at hSw)
          go_simp
        (try simp only [Act.put, List.setIfInBounds_toArray, List.set_cons_zero, List.set_cons_succ])
        refine wpAnyH_take (i := 8) (v := .int .i64 (j2 : Int)) rfl (by kernel_rfl) (by kernel_rfl) (by kernel_rfl) (fun _ _ _ h => hQp.out _ _ _ _ _ h) (Or.inl ⟨by kernel_rfl, fun W hSw => ?_⟩) (by assumption) ?_
        · (try dsimp only at hSw)
          go_simp
        (try simp only [Act.put, List.setIfInBounds_toArray, List.set_cons_zero, List.set_cons_succ])
        refine wpAnyH_take (i := 9) (v := .pointer (some ⟨gb, 1, none⟩)) rfl (by kernel_rfl) (by kernel_rfl) (by kernel_rfl) (fun _ _ _ h => hQp.out _ _ _ _ _ h) (Or.inl ⟨by kernel_rfl, fun W hSw => ?_⟩) (by assumption) ?_
        · (try dsimp only at hSw)
          go_simp
        (try simp only [Act.put, List.setIfInBounds_toArray, List.set_cons_zero, List.set_cons_succ])
        refine wpAnyH_take (i := 10) (v := .int .i64 1) rfl (by kernel_rfl) (by kernel_rfl) (by kernel_rfl) (fun _ _ _ h => hQp.out _ _ _ _ _ h) (Or.inl ⟨by kernel_rfl, fun W hSw => ?_⟩) (by assumption) ?_
        · (try dsimp only at hSw)
          go_simp
        (try simp only [Act.put, List.setIfInBounds_toArray, List.set_cons_zero, List.set_cons_succ])
        refine wpAnyH_take (i := 11) (v := .int .i64 0) rfl (by kernel_rfl) (by kernel_rfl) (by kernel_rfl) (fun _ _ _ h => hQp.out _ _ _ _ _ h) (Or.inl ⟨by kernel_rfl, fun W hSw => ?_⟩) (by assumption) ?_
        · (try dsimp only at hSw)
          go_simp
        (try simp only [Act.put, List.setIfInBounds_toArray, List.set_cons_zero, List.set_cons_succ])
        refine wpAnyH_take (i := 12) (v := .pointer (some ⟨b, off + j2 * 6, none⟩)) rfl (by kernel_rfl) (by kernel_rfl) (by kernel_rfl) (fun _ _ _ h => hQp.out _ _ _ _ _ h) (Or.inl ⟨by kernel_rfl, fun W hSw => ?_⟩) (by assumption) ?_
        · (try dsimp only at hSw)
          go_simp
        (try simp only [Act.put, List.setIfInBounds_toArray, List.set_cons_zero, List.set_cons_succ])
        refine wpAnyH_take (i := 13) (v := .pointer (some ⟨b, off + j2 * 6 + 2, none⟩)) rfl (by kernel_rfl) (by kernel_rfl) (by kernel_rfl) (fun _ _ _ h => hQp.out _ _ _ _ _ h) (Or.inl ⟨by kernel_rfl, fun W hSw => ?_⟩) (by assumption) ?_
        · (try dsimp only at hSw)
          go_simp
        (try simp only [Act.put, List.setIfInBounds_toArray, List.set_cons_zero, List.set_cons_succ])
        refine wpAnyH_take (i := 14) (v := .pointer (some ⟨b, off + j2 * 6 + 2, none⟩)) rfl (by kernel_rfl) (by kernel_rfl) (by kernel_rfl) (fun _ _ _ h => hQp.out _ _ _ _ _ h) (Or.inl ⟨by kernel_rfl, fun W hSw => ?_⟩) (by assumption) ?_
        · (try dsimp only at hSw)
          go_simp
        (try simp only [Act.put, List.setIfInBounds_toArray, List.set_cons_zero, List.set_cons_succ])
        refine wpAnyH_take (i := 15) (v := .int .i64 xc2) rfl (by kernel_rfl) (by kernel_rfl) (by kernel_rfl) (fun _ _ _ h => hQp.out _ _ _ _ _ h) (Or.inl ⟨by kernel_rfl, fun W hSw => ?_⟩) (by assumption) ?_
        · (try dsimp only at hSw)
          go_simp
        (try simp only [Act.put, List.setIfInBounds_toArray, List.set_cons_zero, List.set_cons_succ])
        refine wpAnyH_take (i := 16) (v := .pointer (some ⟨ab, 2, none⟩)) rfl (by kernel_rfl) (by kernel_rfl) (by kernel_rfl) (fun _ _ _ h => hQp.out _ _ _ _ _ h) (Or.inl ⟨by kernel_rfl, fun W hSw => ?_⟩) (by assumption) ?_
        · (try dsimp only at hSw)
          go_simp
        (try simp only [Act.put, List.setIfInBounds_toArray, List.set_cons_zero, List.set_cons_succ])
        refine wpAnyH_ready (rs := [17]) (by kernel_rfl) (by simp) ?_
        refine AllReadyH.cons rfl (fun K hK => ?_) AllReadyH.nil
        go_simp
        rw [eWa.out]
        refine hK.out _ _ z1 (fun hHeld => ?_)
        clear hK K
        (try simp only [Act.put, List.setIfInBounds_toArray, List.set_cons_zero, List.set_cons_succ])
        refine wpAnyH_take (i := 18) (v := .pointer (some ⟨qb, 2, none⟩)) rfl (by kernel_rfl) (by kernel_rfl) (by kernel_rfl) (fun _ _ _ h => hQp.out _ _ _ _ _ h) (Or.inl ⟨by kernel_rfl, fun W hSw => ?_⟩) (by assumption) ?_
        · (try dsimp only at hSw)
          go_simp
        (try simp only [Act.put, List.setIfInBounds_toArray, List.set_cons_zero, List.set_cons_succ])
        refine wpAnyH_ready (rs := [19]) (by kernel_rfl) (by simp) ?_
        refine AllReadyH.cons rfl (fun K hK => ?_) AllReadyH.nil
        go_simp
        rw [eW3.out]
        refine hK.out _ _ z2 (fun hHeld => ?_)
        clear hK K
        (try simp only [Act.put, List.setIfInBounds_toArray, List.set_cons_zero, List.set_cons_succ])
        refine wpAnyH_done (by kernel_rfl) ?_ _
        (try simp only [List.getElem_toArray, List.getElem_cons_succ, List.getElem_cons_zero, Act.put, List.setIfInBounds_toArray, List.set_cons_zero, List.set_cons_succ])
        clear wz0 wz1 wz2 z0 z1 z2 f1 f2 c1 c2 h0 h1 q1 bne bnq hga hgq hHeld eWa eW3
        go_wp2_with fail
        go_roundw
        case rel => exact .inr (.inr ⟨by first | rfl | trivial | go_num, ha3, hb3, B3⟩)
        case measure => simp [intOf]
      · skip
        obtain ⟨b, off, e5, t0, t1, t2, t3, t4, t5⟩ := (hT.out wr hB.out).atT hx2.out
        obtain ⟨bq, offq, eq, y0, y1, y2, y3, y4, y5⟩ := (hQ.out wr hB.out).atQ hq.out
        subst e5
        subst eq
        simp only at t0 t1 t2 t3 t4 t5 y0 y1 y2 y3 y4 y5
        have hh := hh2
        have hr := hr2
        have hn := hn2
        simp only [Tp.has, Tp.price, Tp.qty, if_neg (show ¬ ((2 : Int) = 1) by decide)] at hh hr hn
        subst hh
        subst hr
        have hj := hj2
        have dj1 : decide ((j2 : Int) < 0) = false := decide_eq_false (by omega)
        have dj2 : decide ((cn : Int) ≤ (j2 : Int)) = false := decide_eq_false (by omega)
        have dj2' : decide (cn ≤ j2) = false := decide_eq_false (by omega)
        have dj3 : decide ((j2 : Int) < (cn : Int)) = true := decide_eq_true (by omega)
        have dj4 : (j2 : Int) < (cn : Int) := by omega
        have di3 : decide ((i : Int) < (nq : Int)) = true := decide_eq_true (by omega)
        have di4 : (i : Int) < (nq : Int) := by omega
        obtain ⟨gb, egb⟩ : ∃ x, wr.heap.size = x := ⟨_, rfl⟩
        obtain ⟨W1, eW1⟩ : ∃ W, wr.alloc (.cells #[.int .i64 (j2 : Int), .int .i64 2] 34) = W := ⟨_, rfl⟩
        have hg1 : W1.heap[gb]? = some (.cells #[.int .i64 (j2 : Int), .int .i64 2] 34 (0, 0)) := by rw [← eW1, ← egb]; exact heap_alloc_new wr _
        have bw1 : Below wr.heap.size wr W1 := by rw [← eW1]; exact (Below.refl _ wr).alloc (Nat.le_refl _) _
        have g0 : W1.cell? ⟨gb, 0, none⟩ = some (.int .i64 (j2 : Int)) := by rw [Lib.cell_of_heap hg1]; rfl
        have g1 : W1.cell? ⟨gb, 1, none⟩ = some (.int .i64 2) := by rw [Lib.cell_of_heap hg1]; rfl
        have hgB : Hid (gb ≠ ab ∧ gb ≠ qb) := Lib.hid ⟨by have := (Array.getElem?_eq_some_iff.1 ha.out).1; omega, by have := (Array.getElem?_eq_some_iff.1 hb.out).1; omega⟩
        have hbB : Hid (b ≠ ab ∧ b ≠ qb) := Lib.hid (hTB.out _ rfl)
        have hwr := hB.out.size
        have u0 := (bw1.cell (p := ⟨b, off + j2 * 6 + 1, none⟩) (World.block_lt_of_cell? wr _ t1)).trans t1
        have u1 := (bw1.cell (p := ⟨b, off + j2 * 6 + 3, none⟩) (World.block_lt_of_cell? wr _ t3)).trans t3
        have u2 := (bw1.cell (p := ⟨b, off + j2 * 6 + 5, none⟩) (World.block_lt_of_cell? wr _ t5)).trans t5
        have v1 := (bw1.cell (p := ⟨bq, offq + i * 6 + 1, none⟩) (World.block_lt_of_cell? wr _ y1)).trans y1
        have ha1 := (bw1.block ab (Array.getElem?_eq_some_iff.1 ha.out).1).trans ha.out
        have hb1 := (bw1.block qb (Array.getElem?_eq_some_iff.1 hb.out).1).trans hb.out
        have B1 : Below B w3 W1 := hB.out.trans (bw1.mono (Nat.le_trans hBs hwr))
        replace hg1 := Lib.hid hg1
        replace ha1 := Lib.hid ha1
        replace hb1 := Lib.hid hb1
        replace B1 := Lib.hid B1
        replace eW1 := Lib.hid eW1
        replace egb := Lib.hid egb
        clear bw1 t0 t1 t2 t3 t4 t5 hwr
        go_upto_region 18 with (fail)
        rw [eW1.out, egb.out]
        clear eW1 egb y0 y1 y2 y3 y4 y5
        have dq : decide (xf2 < qn) = false := decide_eq_false (by omega)
        go_quiet (fail)
        go_upto_region 20 with (fail)
        rename Nat => dq
        obtain ⟨W2, eW2⟩ : ∃ W, W1.drewN dq = W := ⟨_, rfl⟩
        have bw2 : Below W1.heap.size W1 W2 := by rw [← eW2]; exact below_drewN (Below.refl _ _) _
        rw [eW2]
        have ha2 := (bw2.block ab (Array.getElem?_eq_some_iff.1 ha1.out).1).trans ha1.out
        have hb2 := (bw2.block qb (Array.getElem?_eq_some_iff.1 hb1.out).1).trans hb1.out
        have hg2 := (bw2.block gb (Array.getElem?_eq_some_iff.1 hg1.out).1).trans hg1.out
        have B2 : Below B w3 W2 := B1.out.trans (bw2.mono (Nat.le_trans hBs B1.out.size))
        have h0 : W2.cell? ⟨gb, 0, none⟩ = some (.int .i64 (j2 : Int)) := by rw [Lib.cell_of_heap hg2]; rfl
        have h1 : W2.cell? ⟨gb, 1, none⟩ = some (.int .i64 2) := by rw [Lib.cell_of_heap hg2]; rfl
        have q1 := (bw2.cell (p := ⟨b, off + j2 * 6 + 3, none⟩) (World.block_lt_of_cell? W1 _ u1)).trans u1
        have f1 := Lib.frozen_of_heap ha2 2
        have c1 : W2.cell? ⟨ab, 2, none⟩ = some (.int .i64 0) := by rw [Lib.cell_of_heap ha2]; rfl
        have s1 := heap_setCell_same W2 ab 2 _ 46 (.int .i64 (j2 : Int)) ha2
        have on1 := set_only W2 ab 2 (.int .i64 (j2 : Int))
        obtain ⟨Wa, eWa⟩ : ∃ W, (W2.setCell ⟨ab, 2, none⟩ (.int .i64 (j2 : Int))).drew = W := ⟨_, rfl⟩
        have on1' : Only (fun k => k = ab) W2 Wa := by rw [← eWa]; exact on1.trans ((Only.refl _ _).drewN 1)
        have s1' : Wa.heap[ab]? = some (.cells #[.int .i64 k, .int .i64 (j1 : Int), .int .i64 (j2 : Int)] 46 (0, 0)) := by rw [← eWa]; exact s1
        have s2 : Wa.heap[qb]? = some (.cells #[.int .i64 qp, .int .i64 r1, .int .i64 0] 47 (0, 0)) := (on1'.block qb (Array.getElem?_eq_some_iff.1 hb2).1 (fun e => hne e.symm)).trans hb2
        have f2 := Lib.frozen_of_heap s2 2
        have c2 : Wa.cell? ⟨qb, 2, none⟩ = some (.int .i64 0) := by rw [Lib.cell_of_heap s2]; rfl
        have s3 := heap_setCell_same Wa qb 2 _ 47 (.int .i64 xd2) s2
        have on2 := set_only Wa qb 2 (.int .i64 xd2)
        have s4 := (on2.block ab (Array.getElem?_eq_some_iff.1 s1').1 hne).trans s1'
        have B3 : Below B w3 (Wa.setCell ⟨qb, 2, none⟩ (.int .i64 xd2)) := (B2.trans (on1'.below (Nat.le_trans hBs B2.size) (fun k hk e => by omega))).trans (on2.below (Nat.le_trans (Nat.le_trans hBs B2.size) on1'.size) (fun k hk e => by omega))
        have bne : b ≠ ab := fun e => hbB.out.1 e
        have bnq : b ≠ qb := fun e => hbB.out.2 e
        obtain ⟨W3, eW3⟩ : ∃ W, Wa.setCell ⟨qb, 2, none⟩ (.int .i64 xd2) = W := ⟨_, rfl⟩
        have hga : gb ≠ ab := hgB.out.1
        have hgq : gb ≠ qb := hgB.out.2
        have z0 : (fun W : World => W.cell? ⟨gb, 0, none⟩ = some (.int .i64 (j2 : Int)) ∧ W.cell? ⟨gb, 1, none⟩ = some (.int .i64 2) ∧ W.cell? ⟨b, off + j2 * 6 + 3, none⟩ = some (.int .i64 xd2)) W2.drew := ⟨h0, h1, q1⟩
        have z1 : (fun W : World => W.cell? ⟨gb, 0, none⟩ = some (.int .i64 (j2 : Int)) ∧ W.cell? ⟨gb, 1, none⟩ = some (.int .i64 2) ∧ W.cell? ⟨b, off + j2 * 6 + 3, none⟩ = some (.int .i64 xd2)) Wa := ⟨on1'.cell h0 hga, on1'.cell h1 hga, on1'.cell q1 bne⟩
        have z2 : (fun W : World => W.cell? ⟨gb, 0, none⟩ = some (.int .i64 (j2 : Int)) ∧ W.cell? ⟨gb, 1, none⟩ = some (.int .i64 2) ∧ W.cell? ⟨b, off + j2 * 6 + 3, none⟩ = some (.int .i64 xd2)) W3 := by rw [← eW3]; exact ⟨on2.cell z1.1 hgq, on2.cell z1.2.1 hgq, on2.cell z1.2.2 bnq⟩
        have ha3 : Hid (W3.heap[ab]? = some (.cells #[.int .i64 k, .int .i64 (j1 : Int), .int .i64 (j2 : Int)] 46 (0, 0))) := Lib.hid (by rw [← eW3]; exact s4)
        have hb3 : Hid (W3.heap[qb]? = some (.cells #[.int .i64 qp, .int .i64 r1, .int .i64 xd2] 47 (0, 0))) := Lib.hid (by rw [← eW3]; exact s3)
        rw [eW3] at B3
        replace B3 := Lib.hid B3
        replace eW3 := Lib.hid eW3
        replace eWa := Lib.hid eWa
        replace eW2 := Lib.hid eW2
        clear ha2 hb2 hg2 B2 bw2 s1 s1' s2 s3 s4 on1 on1' on2 u0 u1 u2 v1 ha1 hb1 hg1 B1 g0 g1 ha hb hB eW2
        have wz0 : IntKind.i64.wrap 0 = 0 := by decide
        have wz1 : IntKind.i64.wrap 1 = 1 := by decide
        have wz2 : IntKind.i64.wrap 2 = 2 := by decide
        refine wp_region_held_drew (S := (fun W : World => W.cell? ⟨gb, 0, none⟩ = some (.int .i64 (j2 : Int)) ∧ W.cell? ⟨gb, 1, none⟩ = some (.int .i64 2) ∧ W.cell? ⟨b, off + j2 * 6 + 3, none⟩ = some (.int .i64 xd2))) (by kernel_rfl) z0 (fun hHeld => ?_)
        refine wpAnyH_take (i := 0) (v := .int .i64 1) rfl (by kernel_rfl) (by kernel_rfl) (by kernel_rfl) (fun _ _ _ h => hQp.out _ _ _ _ _ h) (Or.inl ⟨by kernel_rfl, fun W hSw => ?_⟩) (by assumption) ?_
        · (try dsimp only at hSw)
          go_simp
        (try simp only [Act.put, List.setIfInBounds_toArray, List.set_cons_zero, List.set_cons_succ])
        refine wpAnyH_take (i := 1) (v := .int .i64 2) rfl (by kernel_rfl) (by kernel_rfl) (by kernel_rfl) (fun _ _ _ h => hQp.out _ _ _ _ _ h) (Or.inl ⟨by kernel_rfl, fun W hSw => ?_⟩) (by assumption) ?_
        · (try dsimp only at hSw)
          go_simp
        (try simp only [Act.put, List.setIfInBounds_toArray, List.set_cons_zero, List.set_cons_succ])
        refine wpAnyH_take (i := 2) (v := .int .i64 1) rfl (by kernel_rfl) (by kernel_rfl) (by kernel_rfl) (fun _ _ _ h => hQp.out _ _ _ _ _ h) (Or.inl ⟨by kernel_rfl, fun W hSw => ?_⟩) (by assumption) ?_
        · (try dsimp only at hSw)
          go_simp
        (try simp only [Act.put, List.setIfInBounds_toArray, List.set_cons_zero, List.set_cons_succ])
        refine wpAnyH_take (i := 3) (v := .int .i64 2) rfl (by kernel_rfl) (by kernel_rfl) (by kernel_rfl) (fun _ _ _ h => hQp.out _ _ _ _ _ h) (Or.inl ⟨by kernel_rfl, fun W hSw => ?_⟩) (by assumption) ?_
        · (try dsimp only at hSw)
          go_simp
        (try simp only [Act.put, List.setIfInBounds_toArray, List.set_cons_zero, List.set_cons_succ])
        refine wpAnyH_take (i := 4) (v := .pointer (some ⟨gb, 0, none⟩)) rfl (by kernel_rfl) (by kernel_rfl) (by kernel_rfl) (fun _ _ _ h => hQp.out _ _ _ _ _ h) (Or.inl ⟨by kernel_rfl, fun W hSw => ?_⟩) (by assumption) ?_
        · (try dsimp only at hSw)
          go_simp
        (try simp only [Act.put, List.setIfInBounds_toArray, List.set_cons_zero, List.set_cons_succ])
        refine wpAnyH_take (i := 5) (v := .int .i64 (j2 : Int)) rfl (by kernel_rfl) (by kernel_rfl) (by kernel_rfl) (fun _ _ _ h => hQp.out _ _ _ _ _ h) (Or.inl ⟨by kernel_rfl, fun W hSw => ?_⟩) (by assumption) ?_
        · (try dsimp only at hSw)
          go_simp
        (try simp only [Act.put, List.setIfInBounds_toArray, List.set_cons_zero, List.set_cons_succ])
        refine wpAnyH_take (i := 6) (v := .slice (some ⟨b, off, none⟩) cn k5) rfl (by kernel_rfl) (by kernel_rfl) (by kernel_rfl) (fun _ _ _ h => hQp.out _ _ _ _ _ h) (Or.inl ⟨by kernel_rfl, fun W hSw => ?_⟩) (by assumption) ?_
        · (try dsimp only at hSw)
          go_simp
        (try simp only [Act.put, List.setIfInBounds_toArray, List.set_cons_zero, List.set_cons_succ])
        refine wpAnyH_take (i := 7) (v := .pointer (some ⟨gb, 0, none⟩)) rfl (by kernel_rfl) (by kernel_rfl) (by kernel_rfl) (fun _ _ _ h => hQp.out _ _ _ _ _ h) (Or.inl ⟨by kernel_rfl, fun W hSw => ?_⟩) (by assumption) ?_
        · (try dsimp only at hSw)
          go_simp
        (try simp only [Act.put, List.setIfInBounds_toArray, List.set_cons_zero, List.set_cons_succ])
        refine wpAnyH_take (i := 8) (v := .int .i64 (j2 : Int)) rfl (by kernel_rfl) (by kernel_rfl) (by kernel_rfl) (fun _ _ _ h => hQp.out _ _ _ _ _ h) (Or.inl ⟨by kernel_rfl, fun W hSw => ?_⟩) (by assumption) ?_
        · (try dsimp only at hSw)
          go_simp
        (try simp only [Act.put, List.setIfInBounds_toArray, List.set_cons_zero, List.set_cons_succ])
        refine wpAnyH_take (i := 9) (v := .pointer (some ⟨gb, 1, none⟩)) rfl (by kernel_rfl) (by kernel_rfl) (by kernel_rfl) (fun _ _ _ h => hQp.out _ _ _ _ _ h) (Or.inl ⟨by kernel_rfl, fun W hSw => ?_⟩) (by assumption) ?_
        · (try dsimp only at hSw)
          go_simp
        (try simp only [Act.put, List.setIfInBounds_toArray, List.set_cons_zero, List.set_cons_succ])
        refine wpAnyH_take (i := 10) (v := .int .i64 2) rfl (by kernel_rfl) (by kernel_rfl) (by kernel_rfl) (fun _ _ _ h => hQp.out _ _ _ _ _ h) (Or.inl ⟨by kernel_rfl, fun W hSw => ?_⟩) (by assumption) ?_
        · (try dsimp only at hSw)
          go_simp
        (try simp only [Act.put, List.setIfInBounds_toArray, List.set_cons_zero, List.set_cons_succ])
        refine wpAnyH_take (i := 11) (v := .int .i64 1) rfl (by kernel_rfl) (by kernel_rfl) (by kernel_rfl) (fun _ _ _ h => hQp.out _ _ _ _ _ h) (Or.inl ⟨by kernel_rfl, fun W hSw => ?_⟩) (by assumption) ?_
        · (try dsimp only at hSw)
          go_simp
        (try simp only [Act.put, List.setIfInBounds_toArray, List.set_cons_zero, List.set_cons_succ])
        refine wpAnyH_take (i := 12) (v := .pointer (some ⟨b, off + j2 * 6, none⟩)) rfl (by kernel_rfl) (by kernel_rfl) (by kernel_rfl) (fun _ _ _ h => hQp.out _ _ _ _ _ h) (Or.inl ⟨by kernel_rfl, fun W hSw => ?_⟩) (by assumption) ?_
        · (try dsimp only at hSw)
          go_simp
        (try simp only [Act.put, List.setIfInBounds_toArray, List.set_cons_zero, List.set_cons_succ])
        refine wpAnyH_take (i := 13) (v := .pointer (some ⟨b, off + j2 * 6 + 2, none⟩)) rfl (by kernel_rfl) (by kernel_rfl) (by kernel_rfl) (fun _ _ _ h => hQp.out _ _ _ _ _ h) (Or.inl ⟨by kernel_rfl, fun W hSw => ?_⟩) (by assumption) ?_
        · (try dsimp only at hSw)
          go_simp
        (try simp only [Act.put, List.setIfInBounds_toArray, List.set_cons_zero, List.set_cons_succ])
        refine wpAnyH_take (i := 14) (v := .pointer (some ⟨b, off + j2 * 6 + 3, none⟩)) rfl (by kernel_rfl) (by kernel_rfl) (by kernel_rfl) (fun _ _ _ h => hQp.out _ _ _ _ _ h) (Or.inl ⟨by kernel_rfl, fun W hSw => ?_⟩) (by assumption) ?_
        · (try dsimp only at hSw)
          go_simp
        (try simp only [Act.put, List.setIfInBounds_toArray, List.set_cons_zero, List.set_cons_succ])
        refine wpAnyH_take (i := 15) (v := .int .i64 xd2) rfl (by kernel_rfl) (by kernel_rfl) (by kernel_rfl) (fun _ _ _ h => hQp.out _ _ _ _ _ h) (Or.inl ⟨by kernel_rfl, fun W hSw => ?_⟩) (by assumption) ?_
        · (try dsimp only at hSw)
          go_simp
        (try simp only [Act.put, List.setIfInBounds_toArray, List.set_cons_zero, List.set_cons_succ])
        refine wpAnyH_take (i := 16) (v := .pointer (some ⟨ab, 2, none⟩)) rfl (by kernel_rfl) (by kernel_rfl) (by kernel_rfl) (fun _ _ _ h => hQp.out _ _ _ _ _ h) (Or.inl ⟨by kernel_rfl, fun W hSw => ?_⟩) (by assumption) ?_
        · (try dsimp only at hSw)
          go_simp
        (try simp only [Act.put, List.setIfInBounds_toArray, List.set_cons_zero, List.set_cons_succ])
        refine wpAnyH_ready (rs := [17]) (by kernel_rfl) (by simp) ?_
        refine AllReadyH.cons rfl (fun K hK => ?_) AllReadyH.nil
        go_simp
        rw [eWa.out]
        refine hK.out _ _ z1 (fun hHeld => ?_)
        clear hK K
        (try simp only [Act.put, List.setIfInBounds_toArray, List.set_cons_zero, List.set_cons_succ])
        refine wpAnyH_take (i := 18) (v := .pointer (some ⟨qb, 2, none⟩)) rfl (by kernel_rfl) (by kernel_rfl) (by kernel_rfl) (fun _ _ _ h => hQp.out _ _ _ _ _ h) (Or.inl ⟨by kernel_rfl, fun W hSw => ?_⟩) (by assumption) ?_
        · (try dsimp only at hSw)
          go_simp
        (try simp only [Act.put, List.setIfInBounds_toArray, List.set_cons_zero, List.set_cons_succ])
        refine wpAnyH_ready (rs := [19]) (by kernel_rfl) (by simp) ?_
        refine AllReadyH.cons rfl (fun K hK => ?_) AllReadyH.nil
        go_simp
        rw [eW3.out]
        refine hK.out _ _ z2 (fun hHeld => ?_)
        clear hK K
        (try simp only [Act.put, List.setIfInBounds_toArray, List.set_cons_zero, List.set_cons_succ])
        refine wpAnyH_done (by kernel_rfl) ?_ _
        (try simp only [List.getElem_toArray, List.getElem_cons_succ, List.getElem_cons_zero, Act.put, List.setIfInBounds_toArray, List.set_cons_zero, List.set_cons_succ])
        clear wz0 wz1 wz2 z0 z1 z2 f1 f2 c1 c2 h0 h1 q1 bne bnq hga hgq hHeld eWa eW3
        go_wp2_with fail
        go_roundw
        case rel => exact .inr (.inr ⟨by first | rfl | trivial | go_num, ha3, hb3, B3⟩)
        case measure => simp [intOf]
    · skip
      go_wp2_with fail
      exact hX.out _ _ _ _ _ _ _ _ _ _ _ _ _ _ _ _ _ _ _ _ _ _ _ _ _ _ _ _ _ _ _ _ _ _ _ _ _ _ _ _ _ _ _ _ _ _ _ _ _ _ _ _ _ _ _ _ _ _ _ _ _ _ _ _ _ _ _ _ _ _ _ _ _ _ _ _ _ _ _ _ _ _ _ ⟨ha, hb, hB⟩
end Go.Proofs.Ytdeofifidjbolaa
