/-
  The loops of the document's Add: is it the top; where it stands; the top that was ends.
-/
import Derived.Test.YtlknlicokacoiaaRFill
import Derived.Deep.CutBlock
namespace Go.Proofs.Ytlknlicokacoiaa
open Go.RowKit
set_option linter.unusedVariables false
set_option linter.unusedSimpArgs false

theorem undef_no (b : Bool) : some undef = some (Value.bool b) → False := by intro h; simp [undef] at h
theorem topB_nil (s p : Int) : topB [] s p = true := rfl
theorem topB_take {L : List Or} {j : Nat} {x : Or} (s p : Int) (h : L[j]? = some x) : topB (L.take (j + 1)) s p = (topB (L.take j) s p && !bars s p x) := by
  unfold topB
  rw [List.take_add_one, h, List.any_append]
  simp
theorem bars_off {s p : Int} {x : Or} (h : x.s ≠ s) : bars s p x = false := by unfold bars; simp [h]
theorem bars_on {s p : Int} {x : Or} (h : x.s = s) : bars s p x = !bet s p x.p := by unfold bars; simp [h]
theorem ahead_lt {s p : Int} {x : Or} (h : x.s < s) : ahead s p x = true := by unfold ahead; simp [h]
theorem ahead_eq {s p : Int} {x : Or} (h : x.s = s) : ahead s p x = !bet s p x.p := by unfold ahead; simp [h]
theorem ahead_gt {s p : Int} {x : Or} (h : s < x.s) : ahead s p x = false := by unfold ahead; simp; exact ⟨by omega, fun e => by omega⟩
def loopsOf : Code → List Code
  | .loop c => c :: loopsOf c
  | .seq a b => loopsOf a ++ loopsOf b
  | .block _ c => loopsOf c
  | .scope c => loopsOf c
  | .cond _ a b => loopsOf a ++ loopsOf b
  | _ => []
noncomputable def bdA1 : Code := ((loopsOf (Try.f25.body.getD .skip))[0]?).getD .skip
noncomputable def bdA2 : Code := ((loopsOf (Try.f25.body.getD .skip))[1]?).getD .skip
noncomputable def bdA3 : Code := ((loopsOf (Try.f25.body.getD .skip))[2]?).getD .skip
set_option maxRecDepth 100000 in
set_option maxHeartbeats 4000000 in
theorem RAdd_top {Q0 : Exit → Act → World → Prop} {c0 c1 c4 c5 c6 c7 c8 c9 c10 c13 c15 c16 c17 c18 c19 c20 c21 c22 c23 c24 c25 c26 c27 c28 c29 c30 c31 c32 c33 c34 c35 c36 c37 c38 c39 c40 c41 c42 c43 c44 c45 c46 c47 c48 c49 c50 c51 c52 c53 c54 c55 c56 c57 c58 c59 c60 c61 c62 c63 c64 c65 c66 c67 c68 c69 c70 c71 c72 c73 c74 c75 c76 c77 c78 c79 c80 c81 c82 c83 c84 c85 c86 c87 c88 c89 c90 c91 c92 c93 c94 c95 c96 c97 c98 c99 c100 c101 c102 c103 c104 c105 c106 c107 c108 c109 c110 c111 c112 c113 c114 c115 c116 c117 c118 c119 c120 c121 c122 c123 c124 c125 c126 c127 c128 c129 c130 c131 c132 c133 c134 c135 c136 c137 c138 c139 c140 c141 c142 c143 c144 : Value} {gl nl cap xb : Nat} {i s p n : Int} {L : List Or} {w1 : World} (hv : Hid (HV fO w1 (some ⟨gl, 0, none⟩) nl L)) (hne : xb ≠ gl) (hx : Hid (w1.heap[xb]? = some (.cells #[.int .i64 i, .int .i64 s, .int .i64 p, .int .i64 n, .bool true] 68 (0, 0)))) (y1 : nl ≤ cap) (y2 : cap ≤ 9223372036854775807) (hn : nl ≤ 1000)
    (hX : Hid (∀ (u49 u50 u51 u52 u53 u54 u55 u56 u57 u58 u59 u60 u61 u62 u63 u64 u65 u66 u67 u68 u69 u70 u71 u72 u73 : Value) (w2 : World), Hid (Only (fun q => q = xb) w1 w2) → Hid (w2.heap[xb]? = some (.cells #[.int .i64 i, .int .i64 s, .int .i64 p, .int .i64 n, .bool (topB L s p)] 68 (0, 0))) → Q0 (.exit 0) ⟨List.toArray (c0 :: c1 :: .int .i64 s :: .int .i64 p :: c4 :: c5 :: c6 :: c7 :: c8 :: c9 :: c10 :: .pointer (some ⟨xb, 0, none⟩) :: .slice (some ⟨gl, 0, none⟩) nl cap :: c13 :: .int .i64 (nl : Int) :: c15 :: c16 :: c17 :: c18 :: c19 :: c20 :: c21 :: c22 :: c23 :: c24 :: c25 :: c26 :: c27 :: c28 :: c29 :: c30 :: c31 :: c32 :: c33 :: c34 :: c35 :: c36 :: c37 :: c38 :: c39 :: c40 :: c41 :: c42 :: c43 :: c44 :: c45 :: c46 :: c47 :: c48 :: u49 :: u50 :: u51 :: u52 :: u53 :: u54 :: u55 :: u56 :: u57 :: u58 :: u59 :: u60 :: u61 :: u62 :: u63 :: u64 :: u65 :: u66 :: u67 :: u68 :: u69 :: u70 :: u71 :: u72 :: u73 :: c74 :: c75 :: c76 :: c77 :: c78 :: c79 :: c80 :: c81 :: c82 :: c83 :: c84 :: c85 :: c86 :: c87 :: c88 :: c89 :: c90 :: c91 :: c92 :: c93 :: c94 :: c95 :: c96 :: c97 :: c98 :: c99 :: c100 :: c101 :: c102 :: c103 :: c104 :: c105 :: c106 :: c107 :: c108 :: c109 :: c110 :: c111 :: c112 :: c113 :: c114 :: c115 :: c116 :: c117 :: c118 :: c119 :: c120 :: c121 :: c122 :: c123 :: c124 :: c125 :: c126 :: c127 :: c128 :: c129 :: c130 :: c131 :: c132 :: c133 :: c134 :: c135 :: c136 :: c137 :: c138 :: c139 :: c140 :: c141 :: c142 :: c143 :: c144 :: []), []⟩ w2)) :
    Code.wp Try.prog (.loop bdA1) Q0 ⟨List.toArray (c0 :: c1 :: .int .i64 s :: .int .i64 p :: c4 :: c5 :: c6 :: c7 :: c8 :: c9 :: c10 :: .pointer (some ⟨xb, 0, none⟩) :: .slice (some ⟨gl, 0, none⟩) nl cap :: c13 :: .int .i64 0 :: c15 :: c16 :: c17 :: c18 :: c19 :: c20 :: c21 :: c22 :: c23 :: c24 :: c25 :: c26 :: c27 :: c28 :: c29 :: c30 :: c31 :: c32 :: c33 :: c34 :: c35 :: c36 :: c37 :: c38 :: c39 :: c40 :: c41 :: c42 :: c43 :: c44 :: c45 :: c46 :: c47 :: c48 :: c49 :: c50 :: c51 :: c52 :: c53 :: c54 :: c55 :: c56 :: c57 :: c58 :: c59 :: c60 :: c61 :: c62 :: c63 :: c64 :: c65 :: c66 :: c67 :: c68 :: c69 :: c70 :: c71 :: c72 :: c73 :: c74 :: c75 :: c76 :: c77 :: c78 :: c79 :: c80 :: c81 :: c82 :: c83 :: c84 :: c85 :: c86 :: c87 :: c88 :: c89 :: c90 :: c91 :: c92 :: c93 :: c94 :: c95 :: c96 :: c97 :: c98 :: c99 :: c100 :: c101 :: c102 :: c103 :: c104 :: c105 :: c106 :: c107 :: c108 :: c109 :: c110 :: c111 :: c112 :: c113 :: c114 :: c115 :: c116 :: c117 :: c118 :: c119 :: c120 :: c121 :: c122 :: c123 :: c124 :: c125 :: c126 :: c127 :: c128 :: c129 :: c130 :: c131 :: c132 :: c133 :: c134 :: c135 :: c136 :: c137 :: c138 :: c139 :: c140 :: c141 :: c142 :: c143 :: c144 :: []), []⟩ w1 := by
  conv => arg 2; arg 1; whnf
  go_loopw [14] (fun iv wr => ∃ (j : Nat), iv = .int .i64 j ∧ j ≤ nl ∧ Hid (Only (fun q => q = xb) w1 wr) ∧ Hid (wr.heap[xb]? = some (.cells #[.int .i64 i, .int .i64 s, .int .i64 p, .int .i64 n, .bool (topB (L.take j) s p)] 68 (0, 0)))) (fun iv _ => (nl - intOf iv).toNat)
  case atStart => exact ⟨0, rfl, by omega, Lib.hid (Only.refl _ _), hx⟩
  case round =>
    obtain ⟨j, rfl, hj, hOn, hxw⟩ := hrel
    by_cases hlt : j < nl
    · have g1 : decide ((j : Int) < (nl : Int)) = true := decide_eq_true (by omega)
      have g2 : (j : Int) < (nl : Int) := by omega
      have g3 : decide (j < nl) = true := decide_eq_true hlt
      obtain ⟨y, hy⟩ : ∃ y, L[j]? = some y := ⟨_, List.getElem?_eq_getElem (by rw [hv.out.1]; exact hlt)⟩
      have htk := topB_take s p hy
      obtain ⟨yb, yo, eb, d0, d1, d2, d3, d4⟩ := (hv.out.only hOn.out (fun b off e c => by
        injection e with e
        injection e with e
        omega)).atO hy
      injection eb with eb
      injection eb with eb1 eb2
      subst eb1; subst eb2
      have hbo := bars_off (s := s) (p := p) (x := y)
      have hbn := bars_on (s := s) (p := p) (x := y)
      obtain ⟨yi, ys, yp, yn, yt⟩ := y
      simp only [Nat.zero_add] at d0 d1 d2 d3 d4 hbo hbn
      obtain ⟨⟨-, -, -, -, z4⟩, -⟩ := row5 hxw.out
      have f4 := Lib.frozen_of_heap hxw.out 4
      replace hy := Lib.hid hy
      clear d0 d3 d4
      by_cases h1 : ys = s
      · have k1 : (ys == s) = true := by simpa using h1
        have hbn' := hbn h1
        have HB := Lib.hid (RBetter_any s p yp wr)
        cases hb : bet s p yp with
        | true =>
          rw [hb] at hbn' HB
          have he : Hid (wr.heap[xb]? = some (.cells #[.int .i64 i, .int .i64 s, .int .i64 p, .int .i64 n, .bool (topB (L.take (j + 1)) s p)] 68 (0, 0))) := Lib.hid (by rw [htk, hbn']; simpa using hxw.out)
          replace h1 := Lib.hid h1
          replace htk := Lib.hid htk
          clear hbo hbn hbn' hb hxw z4 f4
          go_wp2_with fail
          refine HB.out.mono ?_
          rintro e wq ⟨rfl, rfl⟩
          go_wp2_with fail
          go_roundw
          case rel => exact ⟨j + 1, by go_num, by omega, hOn, he⟩
          case measure => simp [intOf]; omega
        | false =>
          rw [hb] at hbn' HB
          have he : Hid ((wr.setCell ⟨xb, 4, none⟩ (.bool false)).heap[xb]? = some (.cells #[.int .i64 i, .int .i64 s, .int .i64 p, .int .i64 n, .bool (topB (L.take (j + 1)) s p)] 68 (0, 0))) := Lib.hid (by
            rw [htk, hbn', heap_setCell_same wr xb 4 _ _ _ hxw.out]; simp)
          have ho : Hid (Only (fun q => q = xb) w1 (wr.setCell ⟨xb, 4, none⟩ (.bool false))) := Lib.hid (hOn.out.trans (set_only wr xb 4 _))
          replace h1 := Lib.hid h1
          replace htk := Lib.hid htk
          clear hbo hbn hbn' hb hxw
          go_wp2_with fail
          refine HB.out.mono ?_
          rintro e wq ⟨rfl, rfl⟩
          go_wp2_with fail
          go_roundw
          case rel => exact ⟨j + 1, by go_num, by omega, ho, he⟩
          case measure => simp [intOf]; omega
      · have k1 : (ys == s) = false := by simpa using h1
        have hbo' := hbo h1
        have he : Hid (wr.heap[xb]? = some (.cells #[.int .i64 i, .int .i64 s, .int .i64 p, .int .i64 n, .bool (topB (L.take (j + 1)) s p)] 68 (0, 0))) := Lib.hid (by rw [htk, hbo']; simpa using hxw.out)
        replace h1 := Lib.hid h1
        replace htk := Lib.hid htk
        clear hbo hbn hbo' hxw z4 f4
        go_wp2_with fail
        go_roundw
        case rel => exact ⟨j + 1, by go_num, by omega, hOn, he⟩
        case measure => simp [intOf]; omega
    · obtain rfl : j = nl := by omega
      have g1 : decide ((j : Int) < (j : Int)) = false := by simp
      have g3 : decide (j < j) = false := by simp
      have he : Hid (wr.heap[xb]? = some (.cells #[.int .i64 i, .int .i64 s, .int .i64 p, .int .i64 n, .bool (topB L s p)] 68 (0, 0))) := Lib.hid (by rw [← List.take_of_length_le (i := j) (l := L) (by rw [hv.out.1]; omega)]; exact hxw.out)
      go_wp2_with fail
      exact hX.out _ _ _ _ _ _ _ _ _ _ _ _ _ _ _ _ _ _ _ _ _ _ _ _ _ _ hOn he
set_option maxRecDepth 100000 in
set_option maxHeartbeats 4000000 in
theorem RAdd_k {Q0 : Exit → Act → World → Prop} {c0 c1 c4 c5 c6 c7 c8 c9 c10 c11 c14 c15 c16 c17 c18 c19 c20 c21 c22 c23 c24 c25 c26 c27 c28 c29 c30 c31 c32 c33 c34 c35 c36 c37 c38 c39 c40 c41 c42 c43 c44 c45 c46 c47 c48 c49 c50 c51 c52 c53 c54 c55 c56 c57 c58 c59 c60 c61 c62 c63 c64 c65 c66 c67 c68 c69 c70 c71 c72 c73 c74 c75 c76 c77 c78 c79 c80 c81 c82 c83 c84 c85 c86 c87 c88 c89 c90 c91 c92 c93 c94 c95 c96 c97 c98 c99 c100 c101 c102 c103 c104 c105 c106 c107 c108 c109 c110 c111 c112 c113 c114 c115 c116 c117 c118 c119 c120 c121 c122 c123 c124 c125 c126 c127 c128 c129 c130 c131 c132 c133 c134 c135 c136 c137 c138 c139 c140 c141 c142 c143 c144 : Value} {gl nl cap : Nat} {s p : Int} {L : List Or} {w1 : World} (hv : Hid (HV fO w1 (some ⟨gl, 0, none⟩) nl L)) (y1 : nl ≤ cap) (y2 : cap ≤ 9223372036854775807) (hn : nl ≤ 1000)
    (hX : Hid (∀ (u74 u75 u76 u77 u78 u79 u80 u81 u82 u83 u84 u85 u86 u87 u88 u89 u90 u91 u92 u93 u94 u95 u96 u97 u98 u99 u100 u101 u102 u103 u104 u105 u106 u107 u108 : Value) (k : Nat), k ≤ nl → Hid (∀ j x, j < k → L[j]? = some x → ahead s p x = true) → Hid (k = nl ∨ ∃ x, L[k]? = some x ∧ ahead s p x = false) → Q0 (.exit 2) ⟨List.toArray (c0 :: c1 :: .int .i64 s :: .int .i64 p :: c4 :: c5 :: c6 :: c7 :: c8 :: c9 :: c10 :: c11 :: .slice (some ⟨gl, 0, none⟩) nl cap :: .int .i64 (k : Int) :: c14 :: c15 :: c16 :: c17 :: c18 :: c19 :: c20 :: c21 :: c22 :: c23 :: c24 :: c25 :: c26 :: c27 :: c28 :: c29 :: c30 :: c31 :: c32 :: c33 :: c34 :: c35 :: c36 :: c37 :: c38 :: c39 :: c40 :: c41 :: c42 :: c43 :: c44 :: c45 :: c46 :: c47 :: c48 :: c49 :: c50 :: c51 :: c52 :: c53 :: c54 :: c55 :: c56 :: c57 :: c58 :: c59 :: c60 :: c61 :: c62 :: c63 :: c64 :: c65 :: c66 :: c67 :: c68 :: c69 :: c70 :: c71 :: c72 :: c73 :: u74 :: u75 :: u76 :: u77 :: u78 :: u79 :: u80 :: u81 :: u82 :: u83 :: u84 :: u85 :: u86 :: u87 :: u88 :: u89 :: u90 :: u91 :: u92 :: u93 :: u94 :: u95 :: u96 :: u97 :: u98 :: u99 :: u100 :: u101 :: u102 :: u103 :: u104 :: u105 :: u106 :: u107 :: u108 :: c109 :: c110 :: c111 :: c112 :: c113 :: c114 :: c115 :: c116 :: c117 :: c118 :: c119 :: c120 :: c121 :: c122 :: c123 :: c124 :: c125 :: c126 :: c127 :: c128 :: c129 :: c130 :: c131 :: c132 :: c133 :: c134 :: c135 :: c136 :: c137 :: c138 :: c139 :: c140 :: c141 :: c142 :: c143 :: c144 :: []), []⟩ w1)) :
    Code.wp Try.prog (.loop bdA2) Q0 ⟨List.toArray (c0 :: c1 :: .int .i64 s :: .int .i64 p :: c4 :: c5 :: c6 :: c7 :: c8 :: c9 :: c10 :: c11 :: .slice (some ⟨gl, 0, none⟩) nl cap :: .int .i64 0 :: c14 :: c15 :: c16 :: c17 :: c18 :: c19 :: c20 :: c21 :: c22 :: c23 :: c24 :: c25 :: c26 :: c27 :: c28 :: c29 :: c30 :: c31 :: c32 :: c33 :: c34 :: c35 :: c36 :: c37 :: c38 :: c39 :: c40 :: c41 :: c42 :: c43 :: c44 :: c45 :: c46 :: c47 :: c48 :: c49 :: c50 :: c51 :: c52 :: c53 :: c54 :: c55 :: c56 :: c57 :: c58 :: c59 :: c60 :: c61 :: c62 :: c63 :: c64 :: c65 :: c66 :: c67 :: c68 :: c69 :: c70 :: c71 :: c72 :: c73 :: c74 :: c75 :: c76 :: c77 :: c78 :: c79 :: c80 :: c81 :: c82 :: c83 :: c84 :: c85 :: c86 :: c87 :: c88 :: c89 :: c90 :: c91 :: c92 :: c93 :: c94 :: c95 :: c96 :: c97 :: c98 :: c99 :: c100 :: c101 :: c102 :: c103 :: c104 :: c105 :: c106 :: c107 :: c108 :: c109 :: c110 :: c111 :: c112 :: c113 :: c114 :: c115 :: c116 :: c117 :: c118 :: c119 :: c120 :: c121 :: c122 :: c123 :: c124 :: c125 :: c126 :: c127 :: c128 :: c129 :: c130 :: c131 :: c132 :: c133 :: c134 :: c135 :: c136 :: c137 :: c138 :: c139 :: c140 :: c141 :: c142 :: c143 :: c144 :: []), []⟩ w1 := by
  conv => arg 2; arg 1; whnf
  have hz := Lib.hid undef_no
  go_loop [13] (fun kv => ∃ (k : Nat), kv = .int .i64 k ∧ k ≤ nl ∧ Hid (∀ j x, j < k → L[j]? = some x → ahead s p x = true)) (fun kv => (nl - intOf kv).toNat)
  case atStart => exact ⟨0, rfl, by omega, Lib.hid (fun j x hj => by omega)⟩
  case round =>
    obtain ⟨k, rfl, hk, hAh⟩ := hrel
    by_cases hlt : k < nl
    · have g1 : decide ((k : Int) < (nl : Int)) = true := decide_eq_true (by omega)
      have g2 : (k : Int) < (nl : Int) := by omega
      have g3 : decide (k < nl) = true := decide_eq_true hlt
      obtain ⟨y, hy⟩ : ∃ y, L[k]? = some y := ⟨_, List.getElem?_eq_getElem (by rw [hv.out.1]; exact hlt)⟩
      obtain ⟨yb, yo, eb, -, d1, d2, -, -⟩ := hv.out.atO hy
      injection eb with eb
      injection eb with eb1 eb2
      subst eb1; subst eb2
      have hstep : Hid (ahead s p y = true → ∀ j x, j < k + 1 → L[j]? = some x → ahead s p x = true) := Lib.hid (fun ha j x hj hx => by
        rcases Nat.lt_or_ge j k with h | h
        · exact hAh.out j x h hx
        · have : j = k := by omega
          subst this
          rw [hy] at hx
          injection hx with hx
          rw [← hx]; exact ha)
      have hstop : Hid (ahead s p y = false → k = nl ∨ ∃ x, L[k]? = some x ∧ ahead s p x = false) := Lib.hid (fun ha => .inr ⟨y, hy, ha⟩)
      have al := ahead_lt (s := s) (p := p) (x := y)
      have ae := ahead_eq (s := s) (p := p) (x := y)
      have ag := ahead_gt (s := s) (p := p) (x := y)
      obtain ⟨yi, ys, yp, yn, yt⟩ := y
      simp only [Nat.zero_add] at d1 d2 al ae ag hstep hstop
      replace hy := Lib.hid hy
      by_cases h1 : ys < s
      · have k1 : decide (ys < s) = true := decide_eq_true h1
        have hs := Lib.hid (hstep.out (al h1))
        clear al ae ag hstep hstop
        go_wp2_with fail
        all_goals first
          | exact (hz.out _ (by assumption)).elim
          | (go_round
             case rel => exact ⟨k + 1, by go_num, by omega, hs⟩
             case measure => simp [intOf]; omega)
      · have k1 : decide (ys < s) = false := decide_eq_false h1
        by_cases h2 : ys = s
        · have k2 : (ys == s) = true := by simpa using h2
          have HB := Lib.hid (RBetter_any s p yp w1)
          have ae' := ae h2
          cases hb : bet s p yp with
          | true =>
            rw [hb] at HB ae'
            have hs := Lib.hid (hstop.out ae')
            replace h2 := Lib.hid h2
            clear al ae ag hstep hstop ae' hb
            go_wp2_with fail
            refine HB.out.mono ?_
            rintro e wq ⟨rfl, rfl⟩
            go_wp2_with fail
            exact hX.out _ _ _ _ _ _ _ _ _ _ _ _ _ _ _ _ _ _ _ _ _ _ _ _ _ _ _ _ _ _ _ _ _ _ _ k hk hAh hs
          | false =>
            rw [hb] at HB ae'
            have hs := Lib.hid (hstep.out ae')
            replace h2 := Lib.hid h2
            clear al ae ag hstep hstop ae' hb
            go_wp2_with fail
            refine HB.out.mono ?_
            rintro e wq ⟨rfl, rfl⟩
            go_wp2_with fail
            go_round
            case rel => exact ⟨k + 1, by go_num, by omega, hs⟩
            case measure => simp [intOf]; omega
        · have k2 : (ys == s) = false := by simpa using h2
          have hs := Lib.hid (hstop.out (ag (by omega)))
          replace h2 := Lib.hid h2
          clear al ae ag hstep hstop
          go_wp2_with fail
          all_goals first
            | exact (hz.out _ (by assumption)).elim
            | exact hX.out _ _ _ _ _ _ _ _ _ _ _ _ _ _ _ _ _ _ _ _ _ _ _ _ _ _ _ _ _ _ _ _ _ _ _ k hk hAh hs
    · obtain rfl : k = nl := by omega
      have g1 : decide ((k : Int) < (k : Int)) = false := by simp
      have g3 : decide (k < k) = false := by simp
      go_wp2_with fail
      all_goals first
        | exact (hz.out _ (by assumption)).elim
        | exact hX.out _ _ _ _ _ _ _ _ _ _ _ _ _ _ _ _ _ _ _ _ _ _ _ _ _ _ _ _ _ _ _ _ _ _ _ k hk hAh (Lib.hid (.inl rfl))
theorem set_self {α : Type} {l : List α} {j : Nat} {x : α} (h : l[j]? = some x) : l.set j x = l := by
  obtain ⟨h1, h2⟩ := List.getElem?_eq_some_iff.1 h
  subst h2
  exact List.set_getElem_self h1
theorem clr_step {L : List Or} {j : Nat} {x : Or} (s : Int) (h : L[j]? = some x) : ((L.take j).map (clr s) ++ L.drop j)[j]? = some x ∧ ((L.take j).map (clr s) ++ L.drop j).set j (clr s x) = (L.take (j + 1)).map (clr s) ++ L.drop (j + 1) := by
  obtain ⟨hl, e⟩ := List.getElem?_eq_some_iff.1 h
  have h1 : ((L.take j).map (clr s)).length = j := by rw [List.length_map, List.length_take]; omega
  have h2 : L.drop j = x :: L.drop (j + 1) := by rw [← e]; exact List.drop_eq_getElem_cons hl
  constructor
  · rw [List.getElem?_append_right (by omega), h1, h2]; simp
  · rw [List.set_append_right _ _ (by omega), h1, h2, List.take_add_one, h]; simp
set_option maxRecDepth 100000 in
set_option maxHeartbeats 4000000 in
theorem RAdd_clr {Q0 : Exit → Act → World → Prop} {c0 c1 c3 c4 c5 c6 c7 c8 c9 c10 c13 c14 c16 c17 c18 c19 c20 c21 c22 c23 c24 c25 c26 c27 c28 c29 c30 c31 c32 c33 c34 c35 c36 c37 c38 c39 c40 c41 c42 c43 c44 c45 c46 c47 c48 c49 c50 c51 c52 c53 c54 c55 c56 c57 c58 c59 c60 c61 c62 c63 c64 c65 c66 c67 c68 c69 c70 c71 c72 c73 c74 c75 c76 c77 c78 c79 c80 c81 c82 c83 c84 c85 c86 c87 c88 c89 c90 c91 c92 c93 c94 c95 c96 c97 c98 c99 c100 c101 c102 c103 c104 c105 c106 c107 c108 c109 c110 c111 c112 c113 c114 c115 c116 c117 c118 c119 c120 c121 c122 c123 c124 c125 c126 c127 c128 c129 c130 c131 c132 c133 c134 c135 c136 c137 c138 c139 c140 c141 c142 c143 c144 : Value} {g0 gl nl cap xb : Nat} {i s p n : Int} {T : Bool} {L : List Or} {w1 : World} (hO : Hid (Own fO 68 w1 g0 (.slice (some ⟨gl, 0, none⟩) nl cap) L)) (hne : xb ≠ gl) (hx : Hid (w1.heap[xb]? = some (.cells #[.int .i64 i, .int .i64 s, .int .i64 p, .int .i64 n, .bool T] 68 (0, 0)))) (hln : Hid (L.length = nl)) (y1 : nl ≤ cap) (y2 : cap ≤ 9223372036854775807) (hn : nl ≤ 1000)
    (hX : Hid (∀ (u15 u109 u110 u111 u112 u113 u114 u115 u116 u117 u118 u119 u120 u121 u122 u123 u124 u125 u126 u127 u128 u129 : Value) (w2 : World), Hid (Own fO 68 w2 g0 (.slice (some ⟨gl, 0, none⟩) nl cap) (if T = true then L.map (clr s) else L)) → Hid (Only (fun q => q = gl) w1 w2) → Q0 (.exit 4) ⟨List.toArray (c0 :: c1 :: .int .i64 s :: c3 :: c4 :: c5 :: c6 :: c7 :: c8 :: c9 :: c10 :: .pointer (some ⟨xb, 0, none⟩) :: .slice (some ⟨gl, 0, none⟩) nl cap :: c13 :: c14 :: u15 :: c16 :: c17 :: c18 :: c19 :: c20 :: c21 :: c22 :: c23 :: c24 :: c25 :: c26 :: c27 :: c28 :: c29 :: c30 :: c31 :: c32 :: c33 :: c34 :: c35 :: c36 :: c37 :: c38 :: c39 :: c40 :: c41 :: c42 :: c43 :: c44 :: c45 :: c46 :: c47 :: c48 :: c49 :: c50 :: c51 :: c52 :: c53 :: c54 :: c55 :: c56 :: c57 :: c58 :: c59 :: c60 :: c61 :: c62 :: c63 :: c64 :: c65 :: c66 :: c67 :: c68 :: c69 :: c70 :: c71 :: c72 :: c73 :: c74 :: c75 :: c76 :: c77 :: c78 :: c79 :: c80 :: c81 :: c82 :: c83 :: c84 :: c85 :: c86 :: c87 :: c88 :: c89 :: c90 :: c91 :: c92 :: c93 :: c94 :: c95 :: c96 :: c97 :: c98 :: c99 :: c100 :: c101 :: c102 :: c103 :: c104 :: c105 :: c106 :: c107 :: c108 :: u109 :: u110 :: u111 :: u112 :: u113 :: u114 :: u115 :: u116 :: u117 :: u118 :: u119 :: u120 :: u121 :: u122 :: u123 :: u124 :: u125 :: u126 :: u127 :: u128 :: u129 :: c130 :: c131 :: c132 :: c133 :: c134 :: c135 :: c136 :: c137 :: c138 :: c139 :: c140 :: c141 :: c142 :: c143 :: c144 :: []), []⟩ w2)) :
    Code.wp Try.prog (.loop bdA3) Q0 ⟨List.toArray (c0 :: c1 :: .int .i64 s :: c3 :: c4 :: c5 :: c6 :: c7 :: c8 :: c9 :: c10 :: .pointer (some ⟨xb, 0, none⟩) :: .slice (some ⟨gl, 0, none⟩) nl cap :: c13 :: c14 :: .int .i64 0 :: c16 :: c17 :: c18 :: c19 :: c20 :: c21 :: c22 :: c23 :: c24 :: c25 :: c26 :: c27 :: c28 :: c29 :: c30 :: c31 :: c32 :: c33 :: c34 :: c35 :: c36 :: c37 :: c38 :: c39 :: c40 :: c41 :: c42 :: c43 :: c44 :: c45 :: c46 :: c47 :: c48 :: c49 :: c50 :: c51 :: c52 :: c53 :: c54 :: c55 :: c56 :: c57 :: c58 :: c59 :: c60 :: c61 :: c62 :: c63 :: c64 :: c65 :: c66 :: c67 :: c68 :: c69 :: c70 :: c71 :: c72 :: c73 :: c74 :: c75 :: c76 :: c77 :: c78 :: c79 :: c80 :: c81 :: c82 :: c83 :: c84 :: c85 :: c86 :: c87 :: c88 :: c89 :: c90 :: c91 :: c92 :: c93 :: c94 :: c95 :: c96 :: c97 :: c98 :: c99 :: c100 :: c101 :: c102 :: c103 :: c104 :: c105 :: c106 :: c107 :: c108 :: c109 :: c110 :: c111 :: c112 :: c113 :: c114 :: c115 :: c116 :: c117 :: c118 :: c119 :: c120 :: c121 :: c122 :: c123 :: c124 :: c125 :: c126 :: c127 :: c128 :: c129 :: c130 :: c131 :: c132 :: c133 :: c134 :: c135 :: c136 :: c137 :: c138 :: c139 :: c140 :: c141 :: c142 :: c143 :: c144 :: []), []⟩ w1 := by
  conv => arg 2; arg 1; whnf
  go_loopw [15] (fun iv wr => ∃ (j : Nat), iv = .int .i64 j ∧ j ≤ nl ∧ Hid (T = false → j = 0) ∧ Hid (Own fO 68 wr g0 (.slice (some ⟨gl, 0, none⟩) nl cap) ((L.take j).map (clr s) ++ L.drop j)) ∧ Hid (Only (fun q => q = gl) w1 wr)) (fun iv _ => (nl - intOf iv).toNat)
  case atStart => exact ⟨0, rfl, by omega, Lib.hid (fun _ => rfl), hO, Lib.hid (Only.refl _ _)⟩
  case round =>
    obtain ⟨j, rfl, hj, hT0, hOw, hOn⟩ := hrel
    have hxw := (hOn.out.block xb (Array.getElem?_eq_some_iff.1 hx.out).1 (fun e => hne e)).trans hx.out
    obtain ⟨⟨-, -, -, -, z4⟩, -⟩ := row5 hxw
    replace hxw := Lib.hid hxw
    by_cases hlt : j < nl
    · have g1 : decide ((j : Int) < (nl : Int)) = true := decide_eq_true (by omega)
      have g2 : (j : Int) < (nl : Int) := by omega
      have g3 : decide (j < nl) = true := decide_eq_true hlt
      cases T with
      | false =>
        obtain rfl := hT0.out rfl
        have hf : Hid (Own fO 68 wr g0 (.slice (some ⟨gl, 0, none⟩) nl cap) (if false = true then L.map (clr s) else L)) := Lib.hid hOw.out
        go_wp2_with fail
        exact hX.out _ _ _ _ _ _ _ _ _ _ _ _ _ _ _ _ _ _ _ _ _ _ _ hf hOn
      | true =>
        obtain ⟨y, hy⟩ : ∃ y, L[j]? = some y := ⟨_, List.getElem?_eq_getElem (by rw [hln.out]; exact hlt)⟩
        obtain ⟨q1, q2⟩ := clr_step s hy
        have hlen : ((L.take j).map (clr s) ++ L.drop j).length = nl := by rw [List.length_append, List.length_map, List.length_take, List.length_drop, hln.out]; omega
        obtain ⟨A8, c8, e8, HV8, -, -, -, -⟩ := hOw.out.slice
        injection e8 with e8a e8b e8c
        rw [← e8a] at HV8
        obtain ⟨yb, yo, eb, -, d1, -, -, d4⟩ := HV8.atO q1
        injection eb with eb
        injection eb with eb1 eb2
        subst eb1; subst eb2
        obtain ⟨gy, cy, cury, ey, -, -, hgy, -, -, -, -⟩ := hOw.out.open' (by rw [hlen]; omega)
        injection ey with ey1 ey2 ey3
        injection ey1 with ey1
        injection ey1 with ey1
        subst ey1
        have t4 := Lib.frozen_of_heap hgy (j * 5 + 4)
        have hT1 : Hid (true = false → j + 1 = 0) := Lib.hid (fun e => by cases e)
        by_cases h1 : y.s = s
        · have O2 := hOw.out.set (fm := fO) (j := j) (m := 4) (x' := clr s y) (v := .bool false) q1 (by decide) (by unfold clr; rw [if_pos h1]; rfl)
          rw [q2] at O2
          have On2 := Lib.hid (hOn.out.trans (set_only wr gl (j * 5 + 4) (.bool false)))
          replace O2 := Lib.hid O2
          obtain ⟨yi, ys, yp, yn, yt⟩ := y
          simp only [Nat.zero_add] at d1 d4 h1
          have k1 : (ys == s) = true := by simpa using h1
          replace h1 := Lib.hid h1
          replace hy := Lib.hid hy
          replace HV8 := Lib.hid HV8
          replace hgy := Lib.hid hgy
          replace q1 := Lib.hid q1
          replace q2 := Lib.hid q2
          replace hlen := Lib.hid hlen
          clear hOw e8a e8b e8c ey2 ey3
          go_wp2_with fail
          go_roundw
          case rel => exact ⟨j + 1, by go_num, by omega, hT1, O2, On2⟩
          case measure => simp [intOf]; omega
        · have hcy : clr s y = y := by unfold clr; rw [if_neg h1]
          rw [hcy, set_self q1] at q2
          have O2 : Hid (Own fO 68 wr g0 (.slice (some ⟨gl, 0, none⟩) nl cap) ((L.take (j + 1)).map (clr s) ++ L.drop (j + 1))) := Lib.hid (by rw [← q2]; exact hOw.out)
          obtain ⟨yi, ys, yp, yn, yt⟩ := y
          simp only [Nat.zero_add] at d1 d4 h1
          have k1 : (ys == s) = false := by simpa using h1
          replace h1 := Lib.hid h1
          replace hy := Lib.hid hy
          replace HV8 := Lib.hid HV8
          replace hgy := Lib.hid hgy
          replace q1 := Lib.hid q1
          replace q2 := Lib.hid q2
          replace hlen := Lib.hid hlen
          replace hcy := Lib.hid hcy
          clear hOw e8a e8b e8c ey2 ey3 t4
          go_wp2_with fail
          go_roundw
          case rel => exact ⟨j + 1, by go_num, by omega, hT1, O2, hOn⟩
          case measure => simp [intOf]; omega
    · obtain rfl : j = nl := by omega
      have g1 : decide ((j : Int) < (j : Int)) = false := by simp
      have g3 : decide (j < j) = false := by simp
      have hf : Hid (Own fO 68 wr g0 (.slice (some ⟨gl, 0, none⟩) j cap) (if T = true then L.map (clr s) else L)) := Lib.hid (by
        cases T with
        | false =>
          have h0 := hT0.out rfl
          have := hOw.out
          rw [h0] at this ⊢
          exact this
        | true =>
          have := hOw.out
          rw [List.take_of_length_le (by rw [hln.out]; omega), List.drop_of_length_le (by rw [hln.out]; omega), List.append_nil] at this
          exact this)
      go_wp2_with fail
      exact hX.out _ _ _ _ _ _ _ _ _ _ _ _ _ _ _ _ _ _ _ _ _ _ _ hf hOn
end Go.Proofs.Ytlknlicokacoiaa
