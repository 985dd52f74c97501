/-
  Contract: Add, of cornhillref9.
-/
import Derived.Test.YtlknlicokacoiaaRAddL
import Derived.Test.YtlknlicokacoiaaBkRefuse
import Derived.Test.YtlknlicokacoiaaBkApp
import Derived.Deep.CutBlock
import Derived.Deep.RegionHeld3
namespace Go.Proofs.Ytlknlicokacoiaa
open Go.RowKit
set_option linter.unusedVariables false
set_option linter.unusedSimpArgs false

theorem build_rord (i s p n : Int) : ∀ W : World, (Instr.build 68 #[(0, .int .i64 i), (1, .int .i64 s), (2, .int .i64 p), (3, .int .i64 n), (4, .bool true)]).run Try.prog W = .ok (.agg #[.int .i64 i, .int .i64 s, .int .i64 p, .int .i64 n, .bool true]) W := fun W => by kernel_rfl
theorem split_at {α : Type} {f : α → Bool} : ∀ {M : List α} {k : Nat}, (∀ j x, j < k → M[j]? = some x → f x = true) → (k = M.length ∨ ∃ x, M[k]? = some x ∧ f x = false) → M.takeWhile f = M.take k ∧ M.dropWhile f = M.drop k := by
  intro M
  induction M with
  | nil => intro k _ h; rcases h with h | ⟨x, h, _⟩ <;> simp at h ⊢
  | cons y M ih =>
    intro k ha hs
    cases k with
    | zero =>
      rcases hs with h | ⟨x, h, hf⟩
      · simp at h
      · simp at h; subst h
        rw [List.takeWhile_cons, List.dropWhile_cons, hf]; simp
    | succ k =>
      have hy := ha 0 y (by omega) rfl
      obtain ⟨h1, h2⟩ := ih (k := k) (fun j x hj hx => ha (j + 1) x (by omega) (by simpa using hx)) (by
        rcases hs with h | ⟨x, h, hf⟩
        · left; simpa using h
        · right; exact ⟨x, by simpa using h, hf⟩)
      rw [List.takeWhile_cons, List.dropWhile_cons, hy, h1, h2]; simp
theorem ahead_clr (s p s' : Int) (x : Or) : ahead s p (clr s' x) = ahead s p x := by unfold ahead; rw [clr_s, clr_p]
theorem ins_at {L M : List Or} {i s p n : Int} {k : Nat} (hM : clrL L s p = M) (ha : ∀ j x, j < k → L[j]? = some x → ahead s p x = true) (hs : k = L.length ∨ ∃ x, L[k]? = some x ∧ ahead s p x = false) : insO L i s p n = M.take k ++ ⟨i, s, p, n, topB L s p⟩ :: M.drop k := by
  have hl : M.length = L.length := by rw [← hM]; unfold clrL; split <;> simp
  have hget : ∀ j x, M[j]? = some x → ∃ y, L[j]? = some y ∧ ahead s p x = ahead s p y := fun j x hx => by
    rw [← hM] at hx
    unfold clrL at hx
    split at hx
    · rw [List.getElem?_map] at hx
      cases hL : L[j]? with
      | none => rw [hL] at hx; cases hx
      | some y =>
        rw [hL] at hx
        injection hx with hx
        exact ⟨y, hL, by rw [← hx, ahead_clr]⟩
    · exact ⟨x, hx, rfl⟩
  obtain ⟨h1, h2⟩ := split_at (f := ahead s p) (M := M) (k := k) (fun j x hj hx => by
    obtain ⟨y, hy, e⟩ := hget j x hx
    rw [e]; exact ha j y hj hy) (by
    rcases hs with h | ⟨x, h, hf⟩
    · left; rw [hl]; exact h
    · right
      have hk : k < M.length := by rw [hl]; exact (List.getElem?_eq_some_iff.1 h).1
      obtain ⟨z, hz⟩ : ∃ z, M[k]? = some z := ⟨_, List.getElem?_eq_getElem hk⟩
      obtain ⟨y, hy, e⟩ := hget k z hz
      rw [h] at hy
      injection hy with hy
      exact ⟨z, hz, by rw [e, ← hy]; exact hf⟩)
  unfold insO
  rw [hM, h1, h2]
set_option maxRecDepth 100000 in
set_option maxHeartbeats 8000000 in
theorem RAdd_any (B d : Nat) (v : Value) (L : List Or) (i s p n : Int) (w : World) (hR : Hid (Rm B d v L w)) (hn : L.length ≤ 1000) :
    Calls Try.prog 25 #[.pointer (some ⟨d, 0, none⟩), .int .i64 i, .int .i64 s, .int .i64 p, .int .i64 n] w (RStep B d v (addO L i s p n) w) := by
  have HI := Lib.hid (RFindI_any B d v L i w hR (by omega))
  obtain ⟨R, eR⟩ : ∃ R, refO L i s n = R := ⟨_, rfl⟩
  have eadd := addO_ref L i s p n
  rw [eR] at eadd
  obtain ⟨PP, eP⟩ : ∃ P, addO L i s p n = P := ⟨_, rfl⟩
  rw [eP] at eadd ⊢
  replace eP := Lib.hid eP
  replace eadd := Lib.hid eadd
  go_enter Try.func25, Try.ntmps25
  by_cases hs : s = 1 ∨ s = 2
  · go_upto_region 1 with (fail)
    go_cut [21] from 16 to 21 (fun cv wx => cv = .bool false ∧ wx = w)
    case first =>
      rcases hs with rfl | rfl
      · go_wp2_with fail
        go_meet
        exact ⟨rfl, rfl⟩
      · go_wp2_with fail
        go_meet
        exact ⟨rfl, rfl⟩
    case rest =>
      obtain ⟨rfl, ew⟩ := hcut
      obtain rfl := ew.symm
      have e1 : R = if n < 1 ∨ 1000000 < n then 24 else if hasI L i = true then 25 else if 250 ≤ L.length then 13 else 0 := by
        rw [← eR]; unfold refO sideB; rw [if_neg (by simp; omega)]
      replace eR := Lib.hid eR
      replace hs := Lib.hid hs
      by_cases hb : n < 1 ∨ 1000000 < n
      · rw [if_pos hb] at e1
        subst e1
        have hP : Hid (PP = (24, L)) := Lib.hid (by rw [eadd.out, if_neg (by omega)])
        by_cases h1 : n < 1
        · have k1 : decide (n < 1) = true := decide_eq_true h1
          clear hb
          go_wp2_with fail
          go_ret
          rw [hP.out]
          exact rstep_same hR.out (Below.refl _ _)
        · have h2 : 1000000 < n := by omega
          have k1 : decide (n < 1) = false := decide_eq_false h1
          have k2 : decide (1000000 < n) = true := decide_eq_true h2
          clear hb
          go_wp2_with fail
          go_ret
          rw [hP.out]
          exact rstep_same hR.out (Below.refl _ _)
      · rw [if_neg hb] at e1
        have h1 : ¬ n < 1 := fun h => hb (.inl h)
        have h2 : ¬ 1000000 < n := fun h => hb (.inr h)
        have k1 : decide (n < 1) = false := decide_eq_false h1
        have k2 : decide (1000000 < n) = false := decide_eq_false h2
        clear hb
        rcases idxO_cases L i with ⟨i1, i2, i3⟩ | ⟨A', x, C, i2, i3, i4, i5, i6⟩
        · rw [i1] at HI
          rw [hasI_no i3, if_neg (by simp)] at e1
          obtain ⟨A, cap0, ev, hv, y1, y2, y3, -⟩ := hR.out.own.slice
          obtain ⟨nl, en⟩ : ∃ x, L.length = x := ⟨_, rfl⟩
          obtain ⟨c0, -⟩ := hR.out.cell
          rw [ev, en] at c0
          rw [en] at y1 hv hn e1
          replace i2 := Lib.hid i2
          replace i3 := Lib.hid i3
          replace hv := Lib.hid hv
          replace y3 := Lib.hid y3
          clear i1
          by_cases h3 : 250 ≤ nl
          · rw [if_pos h3] at e1
            subst e1
            have hP : Hid (PP = (13, L)) := Lib.hid (by rw [eadd.out, if_neg (by omega)])
            have k3 : decide ((250 : Int) ≤ (nl : Int)) = true := decide_eq_true (by omega)
            have k4 : decide (250 ≤ nl) = true := decide_eq_true h3
            replace ev := Lib.hid ev
            replace en := Lib.hid en
            go_wp2_with fail
            refine HI.out.mono ?_
            rintro e w1 ⟨rfl, rfl⟩
            go_wp2_with fail
            go_ret
            rw [hP.out]
            exact rstep_same hR.out (Below.refl _ _)
          · rw [if_neg h3] at e1
            subst e1
            have hP : Hid (PP = (0, insO L i s p n)) := Lib.hid (by rw [eadd.out, if_pos rfl])
            have k3 : decide ((250 : Int) ≤ (nl : Int)) = false := decide_eq_false (by omega)
            have k4 : decide (250 ≤ nl) = false := decide_eq_false h3
            replace ev := Lib.hid ev
            replace en := Lib.hid en
            obtain ⟨xb, exb⟩ : ∃ g, w.heap.size = g := ⟨_, rfl⟩
            obtain ⟨W1, eW1⟩ : ∃ W, w.alloc (.cells #[.int .i64 i, .int .i64 s, .int .i64 p, .int .i64 n, .bool true] 68) = W := ⟨_, rfl⟩
            have b1 : Below w.heap.size w W1 := by rw [← eW1]; exact (Below.refl _ w).alloc (Nat.le_refl _) _
            have hx1 : W1.heap[xb]? = some (.cells #[.int .i64 i, .int .i64 s, .int .i64 p, .int .i64 n, .bool true] 68 (0, 0)) := by rw [← eW1, ← exb]; exact heap_alloc_new w _
            obtain ⟨i0, hi0, hz0, hz1, hz2⟩ := info_parts info_rorder
            obtain ⟨g, eg⟩ : ∃ g, W1.heap.size = g := ⟨_, rfl⟩
            obtain ⟨W5, eW5⟩ : ∃ W, W1.alloc (.cells #[] 68) = W := ⟨_, rfl⟩
            have b5 : Below W1.heap.size W1 W5 := by rw [← eW5]; exact (Below.refl _ W1).alloc (Nat.le_refl _) _
            have hO5 : Hid (Own fO 68 W5 g (.slice (some ⟨g, 0, none⟩) 0 0) []) := Lib.hid (by rw [← eW5, ← eg]; exact own_empty _ W1 _ (Nat.le_refl _))
            have B5 := b1.trans (b5.mono b1.size)
            have hv5 := Lib.hid (hv.out.below B5)
            have hR5 := Lib.hid (hR.out.below B5)
            have hg5 : Hid (g ≤ W5.heap.size) := Lib.hid (by rw [← eg]; exact b5.size)
            have hxg : Hid (xb < g) := Lib.hid (by rw [← eg]; exact (Array.getElem?_eq_some_iff.1 hx1).1)
            have hdx : Hid (d < xb) := Lib.hid (by rw [← exb]; exact (hR.out.lt (.inl rfl)).2)
            have hc5 := hR5.out.cell
            rw [ev.out, en.out] at hc5
            obtain ⟨c5, z5⟩ := hc5
            have hlen : ([] : List Or).length + nl ≤ 1000000 := by simp; omega
            have hbr := build_rord i s p n
            have hx5 := Lib.hid ((b5.block xb (Array.getElem?_eq_some_iff.1 hx1).1).trans hx1)
            have hxw : Hid (w.heap.size = xb) := Lib.hid exb
            have hgw : Hid (W1.heap.size = g) := Lib.hid eg
            replace B5 := Lib.hid B5
            replace b5 := Lib.hid b5
            replace b1 := Lib.hid b1
            replace hx1 := Lib.hid hx1
            go_wp2_with fail
            refine HI.out.mono ?_
            rintro e w1 ⟨rfl, rfl⟩
            clear HI
            go_upto_region 10 with (fail)
            go_wp2_with (at_builtin; refine wpList_onto_g (fm := fO) (T := 68) rfl (.tmp 43) (.tmp 47) 25 rfl g i0 (.agg #[.int .i64 0, .int .i64 0, .int .i64 0, .int .i64 0, .bool false]) 40 Try.underlying25 hi0 hz0 hz1 hz2 rfl (by decide) (.slice (some ⟨g, 0, none⟩) 0 0) [] rfl hO5.out A nl cap0 L rfl hv5.out y3.out hlen hg5.out ?_)
            intro v6 w6 o6 g6 k6
            have o6' : Own fO 68 w6 g v6 L := o6
            have B6 : Below g W5 w6 := (Below.refl g W5).grown g6 hg5.out (fun q hq => by
              have e : some g = some q := hq
              injection e with e
              omega)
            have hx6 : Hid (w6.heap[xb]? = some (.cells #[.int .i64 i, .int .i64 s, .int .i64 p, .int .i64 n, .bool true] 68 (0, 0))) := Lib.hid ((B6.block xb hxg.out).trans hx5.out)
            have hd6 : Hid (w6.heap[d]? = some (.cells #[v] 27 (0, 0))) := Lib.hid ((B6.block d (by have := hxg.out; have := hdx.out; omega)).trans hR5.out.at')
            have BB6 : Hid (Below xb w w6) := Lib.hid (by
              have h5 := B5.out
              rw [exb] at h5
              exact h5.trans (B6.mono (by have := hxg.out; omega)))
            obtain ⟨A6, cap6, rfl, hv6, t1, t2, t3, t4⟩ := o6'.slice
            cases A6 with
            | none => rcases k6 with k6 | k6 <;> cases k6
            | some ad =>
              obtain ⟨q1, q2, q3, q4⟩ := t4 ad rfl
              obtain ⟨gl, off, sp⟩ := ad
              simp only at q1 q2 q3 q4
              subst q1; subst q2
              rw [en.out] at t1 hv6 o6' ⊢
              have hne : xb ≠ gl := by have := hxg.out; omega
              have hgl : Hid (g ≤ gl ∧ gl < w6.heap.size) := Lib.hid ⟨q3, q4⟩
              have hn1 : nl ≤ 1000 := by omega
              replace hv6 := Lib.hid hv6
              replace o6' := Lib.hid o6'
              replace B6 := Lib.hid B6
              clear o6 g6 k6 hO5 hv5 c5 z5 t3 t4 hbr exb eg eW1 eW5 hR5
              go_wp2_with fail
              refine RAdd_top hv6 hne hx6 t1 t2 hn1 (Lib.hid ?_)
              intro u49 u50 u51 u52 u53 u54 u55 u56 u57 u58 u59 u60 u61 u62 u63 u64 u65 u66 u67 u68 u69 u70 u71 u72 u73 w7 hOn7 hx7
              have o7 := Lib.hid (o6'.out.only hOn7.out (fun q hq e => by
                have e1 : some gl = some q := hq
                injection e1 with e1
                have e2 : q = xb := e
                omega))
              have hv7 := Lib.hid (hv6.out.only hOn7.out (fun b off e c => by
                injection e with e
                injection e with e
                have e2 : b = xb := c
                omega))
              have hd7 : Hid (w7.heap[d]? = some (.cells #[v] 27 (0, 0))) := Lib.hid ((hOn7.out.block d (Array.getElem?_eq_some_iff.1 hd6.out).1 (fun e => by have e2 : d = xb := e; have := hdx.out; omega)).trans hd6.out)
              have BB7 : Hid (Below xb w w7) := Lib.hid (BB6.out.trans (hOn7.out.below (by have := hgl.out; have := hxg.out; omega) (fun q hq e => by have e2 : q = xb := e; omega)))
              have hs7 : Hid (gl < w7.heap.size) := Lib.hid (by have := hgl.out.2; have := hOn7.out.size; omega)
              clear hx6 hd6 BB6 hOn7
              go_wp2_with fail
              refine RAdd_k hv7 t1 t2 hn1 (Lib.hid ?_)
              intro u74 u75 u76 u77 u78 u79 u80 u81 u82 u83 u84 u85 u86 u87 u88 u89 u90 u91 u92 u93 u94 u95 u96 u97 u98 u99 u100 u101 u102 u103 u104 u105 u106 u107 u108 k hk hAh hSt
              have hl7 : Hid (L.length = nl) := Lib.hid en.out
              go_wp2_with fail
              refine RAdd_clr (s := s) o7 hne hx7 hl7 t1 t2 hn1 (Lib.hid ?_)
              intro u15 u109 u110 u111 u112 u113 u114 u115 u116 u117 u118 u119 u120 u121 u122 u123 u124 u125 u126 u127 u128 u129 w8 hO8 hOn8
              obtain ⟨T, eT⟩ : ∃ T, topB L s p = T := ⟨_, rfl⟩
              obtain ⟨M, eM⟩ : ∃ M, clrL L s p = M := ⟨_, rfl⟩
              have hM8 : (if topB L s p = true then L.map (clr s) else L) = M := by rw [← eM]; rfl
              rw [hM8] at hO8
              rw [eT] at hx7
              have hx8 : Hid (w8.heap[xb]? = some (.cells #[.int .i64 i, .int .i64 s, .int .i64 p, .int .i64 n, .bool T] 68 (0, 0))) := Lib.hid ((hOn8.out.block xb (Array.getElem?_eq_some_iff.1 hx7.out).1 (fun e => hne e)).trans hx7.out)
              have hd8 : Hid (w8.heap[d]? = some (.cells #[v] 27 (0, 0))) := Lib.hid ((hOn8.out.block d (Array.getElem?_eq_some_iff.1 hd7.out).1 (fun e => by have e2 : d = gl := e; have := hdx.out; have := hxg.out; have := hgl.out; omega)).trans hd7.out)
              have BB8 : Hid (Below xb w w8) := Lib.hid (BB7.out.trans (hOn8.out.below (by have := hgl.out; have := hs7.out; have := hxg.out; omega) (fun q hq e => by have e2 : q = gl := e; have := hgl.out; have := hxg.out; omega)))
              have hres : Hid (insO L i s p n = M.take k ++ ⟨i, s, p, n, T⟩ :: M.drop k) := Lib.hid (by rw [← eT]; exact ins_at eM hAh.out (by rw [en.out]; exact hSt.out))
              have hMl : Hid (M.length = nl) := Lib.hid (by rw [← eM]; unfold clrL; split <;> simp [en.out])
              have hOM := Lib.hid hO8.out
              replace eT := Lib.hid eT
              replace eM := Lib.hid eM
              clear hO8 hM8 hx7 hd7 BB7 o7 hv7 hl7 hAh hSt hOn8 hv6 o6' 
              obtain ⟨W0, eW0⟩ : ∃ X, w8.drew = X := ⟨_, rfl⟩
              have O0 : Hid (Own fO 68 W0 g (.slice (some ⟨gl, 0, none⟩) nl cap6) M) := Lib.hid (by rw [← eW0]; exact hOM.out)
              have hx0 : Hid (W0.heap[xb]? = some (.cells #[.int .i64 i, .int .i64 s, .int .i64 p, .int .i64 n, .bool T] 68 (0, 0))) := Lib.hid (by rw [← eW0]; exact hx8.out)
              have hd0 : Hid (W0.heap[d]? = some (.cells #[v] 27 (0, 0))) := Lib.hid (by rw [← eW0]; exact hd8.out)
              have hdl : Hid (d < W0.heap.size) := Lib.hid (Array.getElem?_eq_some_iff.1 hd0.out).1
              have HVM : Hid (HV fO W0 (some ⟨gl, 0, none⟩) nl M) := Lib.hid (by
                obtain ⟨A9, c9, e9, HV9, -, -, -, -⟩ := O0.out.slice
                rw [hMl.out] at e9 HV9
                injection e9 with e9
                rw [e9]; exact HV9)
              have HSx : Hid (∀ W : World, Below W0.heap.size W0 W → (fun W : World => W.cell? ⟨xb, 0, none⟩ = some (.int .i64 i) ∧ W.cell? ⟨xb, 1, none⟩ = some (.int .i64 s) ∧ W.cell? ⟨xb, 2, none⟩ = some (.int .i64 p) ∧ W.cell? ⟨xb, 3, none⟩ = some (.int .i64 n) ∧ W.cell? ⟨xb, 4, none⟩ = some (.bool T)) W) := Lib.hid (fun W h => by
                obtain ⟨⟨q0, q1, q2, q3, q4⟩, -⟩ := row5 ((h.block xb (Array.getElem?_eq_some_iff.1 hx0.out).1).trans hx0.out)
                exact ⟨q0, q1, q2, q3, q4⟩)
              have D0 : Hid (Below W0.heap.size W0 W0) := Lib.hid (Below.refl _ _)
              have z0 := HSx.out W0 D0.out
              simp only at z0
              have z0' : (fun W : World => W.cell? ⟨xb, 0, none⟩ = some (.int .i64 i) ∧ W.cell? ⟨xb, 1, none⟩ = some (.int .i64 s) ∧ W.cell? ⟨xb, 2, none⟩ = some (.int .i64 p) ∧ W.cell? ⟨xb, 3, none⟩ = some (.int .i64 n) ∧ W.cell? ⟨xb, 4, none⟩ = some (.bool T)) w8.drew := by rw [eW0]; exact z0
              simp only at z0'
              have hkn : k ≤ cap6 := by omega
              have hki : (k : Int) ≤ (cap6 : Int) := by omega
              have hki2 : (k : Int) ≤ (nl : Int) := by omega
              have hk0 : (0 : Int) ≤ (k : Int) := by omega
              clear hOM hx8 hd8 hne
              go_upto_region 24 with (fail)
              refine wp_region_held_drew (S := (fun W : World => W.cell? ⟨xb, 0, none⟩ = some (.int .i64 i) ∧ W.cell? ⟨xb, 1, none⟩ = some (.int .i64 s) ∧ W.cell? ⟨xb, 2, none⟩ = some (.int .i64 p) ∧ W.cell? ⟨xb, 3, none⟩ = some (.int .i64 n) ∧ W.cell? ⟨xb, 4, none⟩ = some (.bool T))) (by kernel_rfl) z0' (fun hHeld => ?_)
              rw [eW0]
              rw [eW0] at hHeld
              clear z0'
              replace eW0 := Lib.hid eW0
              by_cases hck : cap6 = k
              · have hnk : nl = k := by omega
                have hck3 := hck.symm
                subst hck3
                have hnk3 := hnk.symm
                subst hnk3
                clear hck hnk hki hki2
                refine wpAnyH_take (i := 0) (v := .pointer (some ⟨d, 0, none⟩)) rfl (by kernel_rfl) (by kernel_rfl) (by kernel_rfl) (fun _ _ _ h => h) (Or.inl ⟨by kernel_rfl, fun W hSw => ?_⟩) (by assumption) ?_
                · (try dsimp only at hSw)
                  go_simp
                (try simp only [Act.put, List.setIfInBounds_toArray, List.set_cons_zero, List.set_cons_succ])
                refine wpAnyH_take (i := 2) (v := .slice (some ⟨gl, 0, none⟩) k k) rfl (by kernel_rfl) (by kernel_rfl) (by kernel_rfl) (fun _ _ _ h => h) (Or.inl ⟨by kernel_rfl, fun W hSw => ?_⟩) (by assumption) ?_
                · (try dsimp only at hSw)
                  go_simp
                (try simp only [Act.put, List.setIfInBounds_toArray, List.set_cons_zero, List.set_cons_succ])
                refine wpAnyH_take (i := 3) (v := .int .i64 (k : Int)) rfl (by kernel_rfl) (by kernel_rfl) (by kernel_rfl) (fun _ _ _ h => h) (Or.inl ⟨by kernel_rfl, fun W hSw => ?_⟩) (by assumption) ?_
                · (try dsimp only at hSw)
                  go_simp
                (try simp only [Act.put, List.setIfInBounds_toArray, List.set_cons_zero, List.set_cons_succ])
                refine wpAnyH_take (i := 4) (v := .slice (some ⟨gl, 0, none⟩) k k) rfl (by kernel_rfl) (by kernel_rfl) (by kernel_rfl) (fun _ _ _ h => h) (Or.inl ⟨by kernel_rfl, fun W hSw => ?_⟩) (by assumption) ?_
                · (try dsimp only at hSw)
                  go_simp
                (try simp only [Act.put, List.setIfInBounds_toArray, List.set_cons_zero, List.set_cons_succ])
                refine wpAnyH_take (i := 6) (v := .agg #[.int .i64 i, .int .i64 s, .int .i64 p, .int .i64 n, .bool T]) rfl (by kernel_rfl) (by kernel_rfl) (by kernel_rfl) (fun _ _ _ h => h) (Or.inl ⟨by kernel_rfl, fun W hSw => ?_⟩) (by assumption) ?_
                · (try dsimp only at hSw)
                  go_simp
                (try simp only [Act.put, List.setIfInBounds_toArray, List.set_cons_zero, List.set_cons_succ])
                refine wpAnyH_take (i := 9) (v := .slice (some ⟨gl, 0, none⟩) k k) rfl (by kernel_rfl) (by kernel_rfl) (by kernel_rfl) (fun _ _ _ h => h) (Or.inl ⟨by kernel_rfl, fun W hSw => ?_⟩) (by assumption) ?_
                · (try dsimp only at hSw)
                  go_simp
                (try simp only [Act.put, List.setIfInBounds_toArray, List.set_cons_zero, List.set_cons_succ])
                refine wpAnyH_take (i := 10) (v := .int .i64 (k : Int)) rfl (by kernel_rfl) (by kernel_rfl) (by kernel_rfl) (fun _ _ _ h => h) (Or.inl ⟨by kernel_rfl, fun W hSw => ?_⟩) (by assumption) ?_
                · (try dsimp only at hSw)
                  go_simp
                (try simp only [Act.put, List.setIfInBounds_toArray, List.set_cons_zero, List.set_cons_succ])
                refine wpAnyH_take (i := 11) (v := .slice (some ⟨gl, 0, none⟩) 0 0) rfl (by kernel_rfl) (by kernel_rfl) (by kernel_rfl) (fun _ _ _ h => h) (Or.inl ⟨by kernel_rfl, fun W hSw => ?_⟩) (by assumption) ?_
                · (try dsimp only at hSw)
                  go_simp
                (try simp only [Act.put, List.setIfInBounds_toArray, List.set_cons_zero, List.set_cons_succ])
                refine wpAnyH_ready (rs := [1, 7]) (by kernel_rfl) (by simp) ?_
                refine AllReadyH.cons rfl (fun K hK => ?_) (AllReadyH.cons rfl (fun K hK => ?_) AllReadyH.nil)
                · go_simp
                  obtain ⟨wa, ewa⟩ : ∃ X, W0.alloc (.cells #[] 68) = X := ⟨_, rfl⟩
                  obtain ⟨ha, eha⟩ : ∃ x, W0.heap.size = x := ⟨_, rfl⟩
                  have ba : Below W0.heap.size W0 wa := by rw [← ewa]; exact (Below.refl _ _).alloc (Nat.le_refl _) _
                  have oa : Hid (Own fO 68 wa W0.heap.size (.slice (some ⟨ha, 0, none⟩) 0 0) []) := Lib.hid (by rw [← ewa, ← eha]; exact own_empty _ W0 _ D0.out.size)
                  have Da := Lib.hid (D0.out.trans (ba.mono D0.out.size))
                  have za := HSx.out wa Da.out
                  rw [ewa, eha]
                  replace ewa := Lib.hid ewa
                  replace eha := Lib.hid eha
                  clear ba
                  refine hK.out _ _ za (fun hHeld => ?_)
                  clear hK K
                  (try simp only [Act.put, List.setIfInBounds_toArray, List.set_cons_zero, List.set_cons_succ])
                  refine wpAnyH_ready (rs := [5, 7]) (by kernel_rfl) (by simp) ?_
                  refine AllReadyH.cons rfl (fun K hK => ?_) (AllReadyH.cons rfl (fun K hK => ?_) AllReadyH.nil)
                  · rw [if_pos (by kernel_rfl)]
                    refine wp_onto_g (fm := fO) (T := 68) (.tmp 131) (.tmp 134) 25 (by rfl) W0.heap.size i0 (.agg #[.int .i64 0, .int .i64 0, .int .i64 0, .int .i64 0, .bool false]) 40 Try.underlying25 hi0 hz0 hz1 hz2 rfl (by decide) (.slice (some ⟨ha, 0, none⟩) 0 0) [] (by rfl) oa.out (some ⟨gl, 0, none⟩) k k (M.take k) (by rfl) ((HVM.out.below Da.out).take hk) (fun e => by cases e) (by simp; omega) Da.out.size ?_
                    intro v5 w5 o5 g5 k5
                    have D5 := Lib.hid (Da.out.grown g5 Da.out.size (fun q hq => (oa.out.lt q hq).1))
                    have z5 := HSx.out w5 D5.out
                    replace o5 := Lib.hid o5
                    clear g5 k5
                    refine hK.out _ _ z5 (fun hHeld => ?_)
                    clear hK K
                    (try simp only [Act.put, List.setIfInBounds_toArray, List.set_cons_zero, List.set_cons_succ])
                    refine wpAnyH_ready (rs := [7]) (by kernel_rfl) (by simp) ?_
                    refine AllReadyH.cons rfl (fun K hK => ?_) AllReadyH.nil
                    go_simp
                    obtain ⟨wb, ewb⟩ : ∃ X, w5.alloc (.cells #[.int .i64 i, .int .i64 s, .int .i64 p, .int .i64 n, .bool T] 68) = X := ⟨_, rfl⟩
                    obtain ⟨hb, ehb⟩ : ∃ x, w5.heap.size = x := ⟨_, rfl⟩
                    have bb : Below w5.heap.size w5 wb := by rw [← ewb]; exact (Below.refl _ _).alloc (Nat.le_refl _) _
                    have hgb : wb.heap[hb]? = some (.cells #[.int .i64 i, .int .i64 s, .int .i64 p, .int .i64 n, .bool T] 68 (0, 0)) := by rw [← ewb, ← ehb]; exact heap_alloc_new w5 _
                    have Hb : Hid (HV fO wb (some ⟨hb, 0, none⟩) 1 [⟨i, s, p, n, T⟩]) := Lib.hid (hv_oneO (x := ⟨i, s, p, n, T⟩) hgb)
                    have hbl : Hid (hb < wb.heap.size) := Lib.hid (Array.getElem?_eq_some_iff.1 hgb).1
                    have Db := Lib.hid (D5.out.trans (bb.mono D5.out.size))
                    have zb := HSx.out wb Db.out
                    have ob := Lib.hid (o5.out.below bb)
                    rw [ewb, ehb]
                    replace ewb := Lib.hid ewb
                    replace ehb := Lib.hid ehb
                    replace hgb := Lib.hid hgb
                    clear bb
                    refine hK.out _ _ zb (fun hHeld => ?_)
                    clear hK K
                    (try simp only [Act.put, List.setIfInBounds_toArray, List.set_cons_zero, List.set_cons_succ])
                    refine wpAnyH_ready (rs := [8]) (by kernel_rfl) (by simp) ?_
                    refine AllReadyH.cons rfl (fun K hK => ?_) AllReadyH.nil
                    rw [if_pos (by kernel_rfl)]
                    refine wp_onto_g (fm := fO) (T := 68) (.tmp 135) (.tmp 137) 25 (by rfl) W0.heap.size i0 (.agg #[.int .i64 0, .int .i64 0, .int .i64 0, .int .i64 0, .bool false]) 40 Try.underlying25 hi0 hz0 hz1 hz2 rfl (by decide) v5 ([] ++ M.take k) (by rfl) ob.out (some ⟨hb, 0, none⟩) 1 1 [⟨i, s, p, n, T⟩] (by rfl) Hb.out (fun e => by cases e) (by simp; omega) Db.out.size ?_
                    intro v8 w8a o8 g8 k8
                    have D8 := Lib.hid (Db.out.grown g8 Db.out.size (fun q hq => (ob.out.lt q hq).1))
                    have z8 := HSx.out w8a D8.out
                    replace o8 := Lib.hid o8
                    clear g8 k8
                    refine hK.out _ _ z8 (fun hHeld => ?_)
                    clear hK K
                    (try simp only [Act.put, List.setIfInBounds_toArray, List.set_cons_zero, List.set_cons_succ])
                    refine wpAnyH_ready (rs := [12]) (by kernel_rfl) (by simp) ?_
                    refine AllReadyH.cons rfl (fun K hK => ?_) AllReadyH.nil
                    rw [if_pos (by kernel_rfl)]
                    refine wp_onto_g (fm := fO) (T := 68) (.tmp 138) (.tmp 141) 25 (by rfl) W0.heap.size i0 (.agg #[.int .i64 0, .int .i64 0, .int .i64 0, .int .i64 0, .bool false]) 40 Try.underlying25 hi0 hz0 hz1 hz2 rfl (by decide) v8 (([] ++ M.take k) ++ [⟨i, s, p, n, T⟩]) (by rfl) o8.out (some ⟨gl, 0, none⟩) 0 0 (M.drop k) (by rfl) (by rw [List.drop_of_length_le (by rw [hMl.out]; omega)]; exact hv_nil _ _) (fun e => by cases e) (by simp; omega) D8.out.size ?_
                    intro v12 w12 o12 g12 k12
                    have D12 := Lib.hid (D8.out.grown g12 D8.out.size (fun q hq => (o8.out.lt q hq).1))
                    have z12 := HSx.out w12 D12.out
                    clear g12 k12
                    obtain ⟨gq, cq, curq, eq, r1, r2, r3, -, -, -, -⟩ := o12.open' (by simp; omega)
                    have hdW : Hid (w12.heap[d]? = some (.cells #[v] 27 (0, 0))) := Lib.hid ((D12.out.block d hdl.out).trans hd0.out)
                    have hdc : w12.cell? ⟨d, 0, none⟩ = some v := by rw [Lib.cell_of_heap hdW.out]; rfl
                    have hdf := Lib.frozen_of_heap hdW.out 0
                    obtain ⟨nq, enq⟩ : ∃ x, ((([] ++ M.take k) ++ [⟨i, s, p, n, T⟩]) ++ M.drop k : List Or).length = x := ⟨_, rfl⟩
                    rw [enq] at eq
                    subst eq
                    replace enq := Lib.hid enq
                    replace r3 := Lib.hid r3
                    replace o12 := Lib.hid o12
                    refine hK.out _ _ z12 (fun hHeld => ?_)
                    clear hK K
                    (try simp only [Act.put, List.setIfInBounds_toArray, List.set_cons_zero, List.set_cons_succ])
                    refine wpAnyH_take (i := 13) (v := .pointer (some ⟨d, 0, none⟩)) rfl (by kernel_rfl) (by kernel_rfl) (by kernel_rfl) (fun _ _ _ h => h) (Or.inl ⟨by kernel_rfl, fun W hSw => ?_⟩) (by assumption) ?_
                    · (try dsimp only at hSw)
                      go_simp
                    (try simp only [Act.put, List.setIfInBounds_toArray, List.set_cons_zero, List.set_cons_succ])
                    refine wpAnyH_take (i := 14) (v := .pointer (some ⟨d, 0, none⟩)) rfl (by kernel_rfl) (by kernel_rfl) (by kernel_rfl) (fun _ _ _ h => h) (Or.inl ⟨by kernel_rfl, fun W hSw => ?_⟩) (by assumption) ?_
                    · (try dsimp only at hSw)
                      go_simp
                    (try simp only [Act.put, List.setIfInBounds_toArray, List.set_cons_zero, List.set_cons_succ])
                    refine wpAnyH_ready (rs := [15]) (by kernel_rfl) (by simp) ?_
                    refine AllReadyH.cons rfl (fun K hK => ?_) AllReadyH.nil
                    have zf : (fun W : World => W.cell? ⟨xb, 0, none⟩ = some (.int .i64 i) ∧ W.cell? ⟨xb, 1, none⟩ = some (.int .i64 s) ∧ W.cell? ⟨xb, 2, none⟩ = some (.int .i64 p) ∧ W.cell? ⟨xb, 3, none⟩ = some (.int .i64 n) ∧ W.cell? ⟨xb, 4, none⟩ = some (.bool T)) (w12.setCell ⟨d, 0, none⟩ (.slice (some ⟨gq, 0, none⟩) nq cq)) := by
                      have h := (set_only w12 d 0 (.slice (some ⟨gq, 0, none⟩) nq cq)).block xb (by have := (Array.getElem?_eq_some_iff.1 hx0.out).1; have := D12.out.size; omega) (fun e => by have e2 : xb = d := e; have := hdx.out; omega)
                      obtain ⟨⟨q0, q1, q2, q3, q4⟩, -⟩ := row5 ((h.trans (D12.out.block xb (Array.getElem?_eq_some_iff.1 hx0.out).1)).trans hx0.out)
                      exact ⟨q0, q1, q2, q3, q4⟩
                    simp only at zf
                    go_simp
                    refine hK.out _ _ zf (fun hHeld => ?_)
                    clear hK K
                    (try simp only [Act.put, List.setIfInBounds_toArray, List.set_cons_zero, List.set_cons_succ])
                    refine wpAnyH_done (by kernel_rfl) ?_ _
                    have hfin : Hid (RStep B d v (0, insO L i s p n) w (.returned (.int .i64 0)) (w12.setCell ⟨d, 0, none⟩ (.slice (some ⟨gq, 0, none⟩) nq cq))) := Lib.hid (by
                      have hq : w.heap.size ≤ gq := by have := BB8.out.size; rw [← eW0.out] at r1; have h2 : w8.drew.heap.size = w8.heap.size := rfl; omega
                      have hRw : Rm B d v L w := hR.out
                      have ho : Own fO 68 w12 w.heap.size (.slice (some ⟨gq, 0, none⟩) nq cq) (insO L i s p n) := by
                        rw [hres.out]
                        have := o12.out
                        rw [List.nil_append, List.append_assoc] at this
                        refine this.base ?_
                        rw [← eW0.out]; exact BB8.out.size
                      refine ⟨.slice (some ⟨gq, 0, none⟩) nq cq, rfl, rm_row hRw (heap_setCell_same w12 d 0 _ _ _ hdW.out) (ho.only (set_only w12 d 0 _) (fun q hq2 e => ?_)), ?_, fun q hq2 => ?_⟩
                      · have e1 : some gq = some q := hq2
                        injection e1 with e1
                        have e2 : q = d := e
                        have := (hRw.lt (.inl rfl)).2
                        omega
                      · have o1 : Only (fun q => q = d) w w12 := by
                          have h8 : Only (fun _ => False) w w8 := only_below (by rw [hxw.out]; exact BB8.out)
                          have h12 : Below w8.heap.size w8 w12 := by
                            have := D12.out
                            rw [← eW0.out] at this
                            exact ⟨this.os, this.tape, this.output, this.size, this.block⟩
                          exact (h8.trans (only_below (h12)) ).mono (fun _ _ e => e.elim)
                        exact o1.trans (set_only w12 d 0 _)
                      · rcases hq2 with e | e
                        · exact .inl (.inl e)
                        · have e1 : some gq = some q := e
                          injection e1 with e1
                          exact .inr (by omega))
                    go_wp2_with fail
                    go_ret
                    rw [hP.out]
                    exact hfin.out
                  · go_simp
                    obtain ⟨wb, ewb⟩ : ∃ X, wa.alloc (.cells #[.int .i64 i, .int .i64 s, .int .i64 p, .int .i64 n, .bool T] 68) = X := ⟨_, rfl⟩
                    obtain ⟨hb, ehb⟩ : ∃ x, wa.heap.size = x := ⟨_, rfl⟩
                    have bb : Below wa.heap.size wa wb := by rw [← ewb]; exact (Below.refl _ _).alloc (Nat.le_refl _) _
                    have hgb : wb.heap[hb]? = some (.cells #[.int .i64 i, .int .i64 s, .int .i64 p, .int .i64 n, .bool T] 68 (0, 0)) := by rw [← ewb, ← ehb]; exact heap_alloc_new wa _
                    have Hb : Hid (HV fO wb (some ⟨hb, 0, none⟩) 1 [⟨i, s, p, n, T⟩]) := Lib.hid (hv_oneO (x := ⟨i, s, p, n, T⟩) hgb)
                    have hbl : Hid (hb < wb.heap.size) := Lib.hid (Array.getElem?_eq_some_iff.1 hgb).1
                    have Db := Lib.hid (Da.out.trans (bb.mono Da.out.size))
                    have zb := HSx.out wb Db.out
                    have ob := Lib.hid (oa.out.below bb)
                    have hab : Hid (ha ≠ hb) := Lib.hid (by have := (oa.out.lt ha rfl).2; omega)
                    rw [ewb, ehb]
                    replace ewb := Lib.hid ewb
                    replace ehb := Lib.hid ehb
                    replace hgb := Lib.hid hgb
                    clear bb
                    refine hK.out _ _ zb (fun hHeld => ?_)
                    clear hK K
                    (try simp only [Act.put, List.setIfInBounds_toArray, List.set_cons_zero, List.set_cons_succ])
                    refine wpAnyH_ready (rs := [5]) (by kernel_rfl) (by simp) ?_
                    refine AllReadyH.cons rfl (fun K hK => ?_) AllReadyH.nil
                    rw [if_pos (by kernel_rfl)]
                    refine wp_onto_g (fm := fO) (T := 68) (.tmp 131) (.tmp 134) 25 (by rfl) W0.heap.size i0 (.agg #[.int .i64 0, .int .i64 0, .int .i64 0, .int .i64 0, .bool false]) 40 Try.underlying25 hi0 hz0 hz1 hz2 rfl (by decide) (.slice (some ⟨ha, 0, none⟩) 0 0) [] (by rfl) ob.out (some ⟨gl, 0, none⟩) k k (M.take k) (by rfl) ((HVM.out.below Db.out).take hk) (fun e => by cases e) (by simp; omega) Db.out.size ?_
                    intro v5 w5 o5 g5 k5
                    have D5 := Lib.hid (Db.out.grown g5 Db.out.size (fun q hq => (ob.out.lt q hq).1))
                    have z5 := HSx.out w5 D5.out
                    have Hb5 : Hid (HV fO w5 (some ⟨hb, 0, none⟩) 1 [⟨i, s, p, n, T⟩]) := Lib.hid (Hb.out.keep (fun b ⟨off, e⟩ hlt => g5.block b hlt (fun e2 => by
                      injection e with e
                      injection e with e e3
                      have e4 : some b = some ha := e2
                      injection e4 with e4
                      exact hab.out (by omega))))
                    replace o5 := Lib.hid o5
                    clear g5 k5
                    refine hK.out _ _ z5 (fun hHeld => ?_)
                    clear hK K
                    (try simp only [Act.put, List.setIfInBounds_toArray, List.set_cons_zero, List.set_cons_succ])
                    refine wpAnyH_ready (rs := [8]) (by kernel_rfl) (by simp) ?_
                    refine AllReadyH.cons rfl (fun K hK => ?_) AllReadyH.nil
                    rw [if_pos (by kernel_rfl)]
                    refine wp_onto_g (fm := fO) (T := 68) (.tmp 135) (.tmp 137) 25 (by rfl) W0.heap.size i0 (.agg #[.int .i64 0, .int .i64 0, .int .i64 0, .int .i64 0, .bool false]) 40 Try.underlying25 hi0 hz0 hz1 hz2 rfl (by decide) v5 ([] ++ M.take k) (by rfl) o5.out (some ⟨hb, 0, none⟩) 1 1 [⟨i, s, p, n, T⟩] (by rfl) Hb5.out (fun e => by cases e) (by simp; omega) D5.out.size ?_
                    intro v8 w8a o8 g8 k8
                    have D8 := Lib.hid (D5.out.grown g8 D5.out.size (fun q hq => (o5.out.lt q hq).1))
                    have z8 := HSx.out w8a D8.out
                    replace o8 := Lib.hid o8
                    clear g8 k8
                    refine hK.out _ _ z8 (fun hHeld => ?_)
                    clear hK K
                    (try simp only [Act.put, List.setIfInBounds_toArray, List.set_cons_zero, List.set_cons_succ])
                    refine wpAnyH_ready (rs := [12]) (by kernel_rfl) (by simp) ?_
                    refine AllReadyH.cons rfl (fun K hK => ?_) AllReadyH.nil
                    rw [if_pos (by kernel_rfl)]
                    refine wp_onto_g (fm := fO) (T := 68) (.tmp 138) (.tmp 141) 25 (by rfl) W0.heap.size i0 (.agg #[.int .i64 0, .int .i64 0, .int .i64 0, .int .i64 0, .bool false]) 40 Try.underlying25 hi0 hz0 hz1 hz2 rfl (by decide) v8 (([] ++ M.take k) ++ [⟨i, s, p, n, T⟩]) (by rfl) o8.out (some ⟨gl, 0, none⟩) 0 0 (M.drop k) (by rfl) (by rw [List.drop_of_length_le (by rw [hMl.out]; omega)]; exact hv_nil _ _) (fun e => by cases e) (by simp; omega) D8.out.size ?_
                    intro v12 w12 o12 g12 k12
                    have D12 := Lib.hid (D8.out.grown g12 D8.out.size (fun q hq => (o8.out.lt q hq).1))
                    have z12 := HSx.out w12 D12.out
                    clear g12 k12
                    obtain ⟨gq, cq, curq, eq, r1, r2, r3, -, -, -, -⟩ := o12.open' (by simp; omega)
                    have hdW : Hid (w12.heap[d]? = some (.cells #[v] 27 (0, 0))) := Lib.hid ((D12.out.block d hdl.out).trans hd0.out)
                    have hdc : w12.cell? ⟨d, 0, none⟩ = some v := by rw [Lib.cell_of_heap hdW.out]; rfl
                    have hdf := Lib.frozen_of_heap hdW.out 0
                    obtain ⟨nq, enq⟩ : ∃ x, ((([] ++ M.take k) ++ [⟨i, s, p, n, T⟩]) ++ M.drop k : List Or).length = x := ⟨_, rfl⟩
                    rw [enq] at eq
                    subst eq
                    replace enq := Lib.hid enq
                    replace r3 := Lib.hid r3
                    replace o12 := Lib.hid o12
                    refine hK.out _ _ z12 (fun hHeld => ?_)
                    clear hK K
                    (try simp only [Act.put, List.setIfInBounds_toArray, List.set_cons_zero, List.set_cons_succ])
                    refine wpAnyH_take (i := 13) (v := .pointer (some ⟨d, 0, none⟩)) rfl (by kernel_rfl) (by kernel_rfl) (by kernel_rfl) (fun _ _ _ h => h) (Or.inl ⟨by kernel_rfl, fun W hSw => ?_⟩) (by assumption) ?_
                    · (try dsimp only at hSw)
                      go_simp
                    (try simp only [Act.put, List.setIfInBounds_toArray, List.set_cons_zero, List.set_cons_succ])
                    refine wpAnyH_take (i := 14) (v := .pointer (some ⟨d, 0, none⟩)) rfl (by kernel_rfl) (by kernel_rfl) (by kernel_rfl) (fun _ _ _ h => h) (Or.inl ⟨by kernel_rfl, fun W hSw => ?_⟩) (by assumption) ?_
                    · (try dsimp only at hSw)
                      go_simp
                    (try simp only [Act.put, List.setIfInBounds_toArray, List.set_cons_zero, List.set_cons_succ])
                    refine wpAnyH_ready (rs := [15]) (by kernel_rfl) (by simp) ?_
                    refine AllReadyH.cons rfl (fun K hK => ?_) AllReadyH.nil
                    have zf : (fun W : World => W.cell? ⟨xb, 0, none⟩ = some (.int .i64 i) ∧ W.cell? ⟨xb, 1, none⟩ = some (.int .i64 s) ∧ W.cell? ⟨xb, 2, none⟩ = some (.int .i64 p) ∧ W.cell? ⟨xb, 3, none⟩ = some (.int .i64 n) ∧ W.cell? ⟨xb, 4, none⟩ = some (.bool T)) (w12.setCell ⟨d, 0, none⟩ (.slice (some ⟨gq, 0, none⟩) nq cq)) := by
                      have h := (set_only w12 d 0 (.slice (some ⟨gq, 0, none⟩) nq cq)).block xb (by have := (Array.getElem?_eq_some_iff.1 hx0.out).1; have := D12.out.size; omega) (fun e => by have e2 : xb = d := e; have := hdx.out; omega)
                      obtain ⟨⟨q0, q1, q2, q3, q4⟩, -⟩ := row5 ((h.trans (D12.out.block xb (Array.getElem?_eq_some_iff.1 hx0.out).1)).trans hx0.out)
                      exact ⟨q0, q1, q2, q3, q4⟩
                    simp only at zf
                    go_simp
                    refine hK.out _ _ zf (fun hHeld => ?_)
                    clear hK K
                    (try simp only [Act.put, List.setIfInBounds_toArray, List.set_cons_zero, List.set_cons_succ])
                    refine wpAnyH_done (by kernel_rfl) ?_ _
                    have hfin : Hid (RStep B d v (0, insO L i s p n) w (.returned (.int .i64 0)) (w12.setCell ⟨d, 0, none⟩ (.slice (some ⟨gq, 0, none⟩) nq cq))) := Lib.hid (by
                      have hq : w.heap.size ≤ gq := by have := BB8.out.size; rw [← eW0.out] at r1; have h2 : w8.drew.heap.size = w8.heap.size := rfl; omega
                      have hRw : Rm B d v L w := hR.out
                      have ho : Own fO 68 w12 w.heap.size (.slice (some ⟨gq, 0, none⟩) nq cq) (insO L i s p n) := by
                        rw [hres.out]
                        have := o12.out
                        rw [List.nil_append, List.append_assoc] at this
                        refine this.base ?_
                        rw [← eW0.out]; exact BB8.out.size
                      refine ⟨.slice (some ⟨gq, 0, none⟩) nq cq, rfl, rm_row hRw (heap_setCell_same w12 d 0 _ _ _ hdW.out) (ho.only (set_only w12 d 0 _) (fun q hq2 e => ?_)), ?_, fun q hq2 => ?_⟩
                      · have e1 : some gq = some q := hq2
                        injection e1 with e1
                        have e2 : q = d := e
                        have := (hRw.lt (.inl rfl)).2
                        omega
                      · have o1 : Only (fun q => q = d) w w12 := by
                          have h8 : Only (fun _ => False) w w8 := only_below (by rw [hxw.out]; exact BB8.out)
                          have h12 : Below w8.heap.size w8 w12 := by
                            have := D12.out
                            rw [← eW0.out] at this
                            exact ⟨this.os, this.tape, this.output, this.size, this.block⟩
                          exact (h8.trans (only_below (h12)) ).mono (fun _ _ e => e.elim)
                        exact o1.trans (set_only w12 d 0 _)
                      · rcases hq2 with e | e
                        · exact .inl (.inl e)
                        · have e1 : some gq = some q := e
                          injection e1 with e1
                          exact .inr (by omega))
                    go_wp2_with fail
                    go_ret
                    rw [hP.out]
                    exact hfin.out
                · go_simp
                  obtain ⟨wb, ewb⟩ : ∃ X, W0.alloc (.cells #[.int .i64 i, .int .i64 s, .int .i64 p, .int .i64 n, .bool T] 68) = X := ⟨_, rfl⟩
                  obtain ⟨hb, ehb⟩ : ∃ x, W0.heap.size = x := ⟨_, rfl⟩
                  have bb : Below W0.heap.size W0 wb := by rw [← ewb]; exact (Below.refl _ _).alloc (Nat.le_refl _) _
                  have hgb : wb.heap[hb]? = some (.cells #[.int .i64 i, .int .i64 s, .int .i64 p, .int .i64 n, .bool T] 68 (0, 0)) := by rw [← ewb, ← ehb]; exact heap_alloc_new W0 _
                  have Hb : Hid (HV fO wb (some ⟨hb, 0, none⟩) 1 [⟨i, s, p, n, T⟩]) := Lib.hid (hv_oneO (x := ⟨i, s, p, n, T⟩) hgb)
                  have hbl : Hid (hb < wb.heap.size) := Lib.hid (Array.getElem?_eq_some_iff.1 hgb).1
                  have Db := Lib.hid (D0.out.trans (bb.mono D0.out.size))
                  have zb := HSx.out wb Db.out
                  rw [ewb, ehb]
                  replace ewb := Lib.hid ewb
                  replace ehb := Lib.hid ehb
                  replace hgb := Lib.hid hgb
                  clear bb
                  refine hK.out _ _ zb (fun hHeld => ?_)
                  clear hK K
                  (try simp only [Act.put, List.setIfInBounds_toArray, List.set_cons_zero, List.set_cons_succ])
                  refine wpAnyH_ready (rs := [1]) (by kernel_rfl) (by simp) ?_
                  refine AllReadyH.cons rfl (fun K hK => ?_) AllReadyH.nil
                  go_simp
                  obtain ⟨wa, ewa⟩ : ∃ X, wb.alloc (.cells #[] 68) = X := ⟨_, rfl⟩
                  obtain ⟨ha, eha⟩ : ∃ x, wb.heap.size = x := ⟨_, rfl⟩
                  have ba : Below wb.heap.size wb wa := by rw [← ewa]; exact (Below.refl _ _).alloc (Nat.le_refl _) _
                  have oa : Hid (Own fO 68 wa W0.heap.size (.slice (some ⟨ha, 0, none⟩) 0 0) []) := Lib.hid (by rw [← ewa, ← eha]; exact own_empty _ wb _ Db.out.size)
                  have Da := Lib.hid (Db.out.trans (ba.mono Db.out.size))
                  have za := HSx.out wa Da.out
                  have hab : Hid (ha ≠ hb) := Lib.hid (by have := hbl.out; omega)
                  have Hba := Lib.hid (Hb.out.below ba)
                  rw [ewa, eha]
                  replace ewa := Lib.hid ewa
                  replace eha := Lib.hid eha
                  clear ba
                  refine hK.out _ _ za (fun hHeld => ?_)
                  clear hK K
                  (try simp only [Act.put, List.setIfInBounds_toArray, List.set_cons_zero, List.set_cons_succ])
                  refine wpAnyH_ready (rs := [5]) (by kernel_rfl) (by simp) ?_
                  refine AllReadyH.cons rfl (fun K hK => ?_) AllReadyH.nil
                  rw [if_pos (by kernel_rfl)]
                  refine wp_onto_g (fm := fO) (T := 68) (.tmp 131) (.tmp 134) 25 (by rfl) W0.heap.size i0 (.agg #[.int .i64 0, .int .i64 0, .int .i64 0, .int .i64 0, .bool false]) 40 Try.underlying25 hi0 hz0 hz1 hz2 rfl (by decide) (.slice (some ⟨ha, 0, none⟩) 0 0) [] (by rfl) oa.out (some ⟨gl, 0, none⟩) k k (M.take k) (by rfl) ((HVM.out.below Da.out).take hk) (fun e => by cases e) (by simp; omega) Da.out.size ?_
                  intro v5 w5 o5 g5 k5
                  have D5 := Lib.hid (Da.out.grown g5 Da.out.size (fun q hq => (oa.out.lt q hq).1))
                  have z5 := HSx.out w5 D5.out
                  have Hb5 : Hid (HV fO w5 (some ⟨hb, 0, none⟩) 1 [⟨i, s, p, n, T⟩]) := Lib.hid (Hba.out.keep (fun b ⟨off, e⟩ hlt => g5.block b hlt (fun e2 => by
                    injection e with e
                    injection e with e e3
                    have e4 : some b = some ha := e2
                    injection e4 with e4
                    exact hab.out (by omega))))
                  replace o5 := Lib.hid o5
                  clear g5 k5
                  refine hK.out _ _ z5 (fun hHeld => ?_)
                  clear hK K
                  (try simp only [Act.put, List.setIfInBounds_toArray, List.set_cons_zero, List.set_cons_succ])
                  refine wpAnyH_ready (rs := [8]) (by kernel_rfl) (by simp) ?_
                  refine AllReadyH.cons rfl (fun K hK => ?_) AllReadyH.nil
                  rw [if_pos (by kernel_rfl)]
                  refine wp_onto_g (fm := fO) (T := 68) (.tmp 135) (.tmp 137) 25 (by rfl) W0.heap.size i0 (.agg #[.int .i64 0, .int .i64 0, .int .i64 0, .int .i64 0, .bool false]) 40 Try.underlying25 hi0 hz0 hz1 hz2 rfl (by decide) v5 ([] ++ M.take k) (by rfl) o5.out (some ⟨hb, 0, none⟩) 1 1 [⟨i, s, p, n, T⟩] (by rfl) Hb5.out (fun e => by cases e) (by simp; omega) D5.out.size ?_
                  intro v8 w8a o8 g8 k8
                  have D8 := Lib.hid (D5.out.grown g8 D5.out.size (fun q hq => (o5.out.lt q hq).1))
                  have z8 := HSx.out w8a D8.out
                  replace o8 := Lib.hid o8
                  clear g8 k8
                  refine hK.out _ _ z8 (fun hHeld => ?_)
                  clear hK K
                  (try simp only [Act.put, List.setIfInBounds_toArray, List.set_cons_zero, List.set_cons_succ])
                  refine wpAnyH_ready (rs := [12]) (by kernel_rfl) (by simp) ?_
                  refine AllReadyH.cons rfl (fun K hK => ?_) AllReadyH.nil
                  rw [if_pos (by kernel_rfl)]
                  refine wp_onto_g (fm := fO) (T := 68) (.tmp 138) (.tmp 141) 25 (by rfl) W0.heap.size i0 (.agg #[.int .i64 0, .int .i64 0, .int .i64 0, .int .i64 0, .bool false]) 40 Try.underlying25 hi0 hz0 hz1 hz2 rfl (by decide) v8 (([] ++ M.take k) ++ [⟨i, s, p, n, T⟩]) (by rfl) o8.out (some ⟨gl, 0, none⟩) 0 0 (M.drop k) (by rfl) (by rw [List.drop_of_length_le (by rw [hMl.out]; omega)]; exact hv_nil _ _) (fun e => by cases e) (by simp; omega) D8.out.size ?_
                  intro v12 w12 o12 g12 k12
                  have D12 := Lib.hid (D8.out.grown g12 D8.out.size (fun q hq => (o8.out.lt q hq).1))
                  have z12 := HSx.out w12 D12.out
                  clear g12 k12
                  obtain ⟨gq, cq, curq, eq, r1, r2, r3, -, -, -, -⟩ := o12.open' (by simp; omega)
                  have hdW : Hid (w12.heap[d]? = some (.cells #[v] 27 (0, 0))) := Lib.hid ((D12.out.block d hdl.out).trans hd0.out)
                  have hdc : w12.cell? ⟨d, 0, none⟩ = some v := by rw [Lib.cell_of_heap hdW.out]; rfl
                  have hdf := Lib.frozen_of_heap hdW.out 0
                  obtain ⟨nq, enq⟩ : ∃ x, ((([] ++ M.take k) ++ [⟨i, s, p, n, T⟩]) ++ M.drop k : List Or).length = x := ⟨_, rfl⟩
                  rw [enq] at eq
                  subst eq
                  replace enq := Lib.hid enq
                  replace r3 := Lib.hid r3
                  replace o12 := Lib.hid o12
                  refine hK.out _ _ z12 (fun hHeld => ?_)
                  clear hK K
                  (try simp only [Act.put, List.setIfInBounds_toArray, List.set_cons_zero, List.set_cons_succ])
                  refine wpAnyH_take (i := 13) (v := .pointer (some ⟨d, 0, none⟩)) rfl (by kernel_rfl) (by kernel_rfl) (by kernel_rfl) (fun _ _ _ h => h) (Or.inl ⟨by kernel_rfl, fun W hSw => ?_⟩) (by assumption) ?_
                  · (try dsimp only at hSw)
                    go_simp
                  (try simp only [Act.put, List.setIfInBounds_toArray, List.set_cons_zero, List.set_cons_succ])
                  refine wpAnyH_take (i := 14) (v := .pointer (some ⟨d, 0, none⟩)) rfl (by kernel_rfl) (by kernel_rfl) (by kernel_rfl) (fun _ _ _ h => h) (Or.inl ⟨by kernel_rfl, fun W hSw => ?_⟩) (by assumption) ?_
                  · (try dsimp only at hSw)
                    go_simp
                  (try simp only [Act.put, List.setIfInBounds_toArray, List.set_cons_zero, List.set_cons_succ])
                  refine wpAnyH_ready (rs := [15]) (by kernel_rfl) (by simp) ?_
                  refine AllReadyH.cons rfl (fun K hK => ?_) AllReadyH.nil
                  have zf : (fun W : World => W.cell? ⟨xb, 0, none⟩ = some (.int .i64 i) ∧ W.cell? ⟨xb, 1, none⟩ = some (.int .i64 s) ∧ W.cell? ⟨xb, 2, none⟩ = some (.int .i64 p) ∧ W.cell? ⟨xb, 3, none⟩ = some (.int .i64 n) ∧ W.cell? ⟨xb, 4, none⟩ = some (.bool T)) (w12.setCell ⟨d, 0, none⟩ (.slice (some ⟨gq, 0, none⟩) nq cq)) := by
                    have h := (set_only w12 d 0 (.slice (some ⟨gq, 0, none⟩) nq cq)).block xb (by have := (Array.getElem?_eq_some_iff.1 hx0.out).1; have := D12.out.size; omega) (fun e => by have e2 : xb = d := e; have := hdx.out; omega)
                    obtain ⟨⟨q0, q1, q2, q3, q4⟩, -⟩ := row5 ((h.trans (D12.out.block xb (Array.getElem?_eq_some_iff.1 hx0.out).1)).trans hx0.out)
                    exact ⟨q0, q1, q2, q3, q4⟩
                  simp only at zf
                  go_simp
                  refine hK.out _ _ zf (fun hHeld => ?_)
                  clear hK K
                  (try simp only [Act.put, List.setIfInBounds_toArray, List.set_cons_zero, List.set_cons_succ])
                  refine wpAnyH_done (by kernel_rfl) ?_ _
                  have hfin : Hid (RStep B d v (0, insO L i s p n) w (.returned (.int .i64 0)) (w12.setCell ⟨d, 0, none⟩ (.slice (some ⟨gq, 0, none⟩) nq cq))) := Lib.hid (by
                    have hq : w.heap.size ≤ gq := by have := BB8.out.size; rw [← eW0.out] at r1; have h2 : w8.drew.heap.size = w8.heap.size := rfl; omega
                    have hRw : Rm B d v L w := hR.out
                    have ho : Own fO 68 w12 w.heap.size (.slice (some ⟨gq, 0, none⟩) nq cq) (insO L i s p n) := by
                      rw [hres.out]
                      have := o12.out
                      rw [List.nil_append, List.append_assoc] at this
                      refine this.base ?_
                      rw [← eW0.out]; exact BB8.out.size
                    refine ⟨.slice (some ⟨gq, 0, none⟩) nq cq, rfl, rm_row hRw (heap_setCell_same w12 d 0 _ _ _ hdW.out) (ho.only (set_only w12 d 0 _) (fun q hq2 e => ?_)), ?_, fun q hq2 => ?_⟩
                    · have e1 : some gq = some q := hq2
                      injection e1 with e1
                      have e2 : q = d := e
                      have := (hRw.lt (.inl rfl)).2
                      omega
                    · have o1 : Only (fun q => q = d) w w12 := by
                        have h8 : Only (fun _ => False) w w8 := only_below (by rw [hxw.out]; exact BB8.out)
                        have h12 : Below w8.heap.size w8 w12 := by
                          have := D12.out
                          rw [← eW0.out] at this
                          exact ⟨this.os, this.tape, this.output, this.size, this.block⟩
                        exact (h8.trans (only_below (h12)) ).mono (fun _ _ e => e.elim)
                      exact o1.trans (set_only w12 d 0 _)
                    · rcases hq2 with e | e
                      · exact .inl (.inl e)
                      · have e1 : some gq = some q := e
                        injection e1 with e1
                        exact .inr (by omega))
                  go_wp2_with fail
                  go_ret
                  rw [hP.out]
                  exact hfin.out
              · have hck2 : ¬ k = cap6 := fun e => hck e.symm
                refine wpAnyH_take (i := 0) (v := .pointer (some ⟨d, 0, none⟩)) rfl (by kernel_rfl) (by kernel_rfl) (by kernel_rfl) (fun _ _ _ h => h) (Or.inl ⟨by kernel_rfl, fun W hSw => ?_⟩) (by assumption) ?_
                · (try dsimp only at hSw)
                  go_simp
                (try simp only [Act.put, List.setIfInBounds_toArray, List.set_cons_zero, List.set_cons_succ])
                refine wpAnyH_take (i := 2) (v := .slice (some ⟨gl, 0, none⟩) nl cap6) rfl (by kernel_rfl) (by kernel_rfl) (by kernel_rfl) (fun _ _ _ h => h) (Or.inl ⟨by kernel_rfl, fun W hSw => ?_⟩) (by assumption) ?_
                · (try dsimp only at hSw)
                  go_simp
                (try simp only [Act.put, List.setIfInBounds_toArray, List.set_cons_zero, List.set_cons_succ])
                refine wpAnyH_take (i := 3) (v := .int .i64 (k : Int)) rfl (by kernel_rfl) (by kernel_rfl) (by kernel_rfl) (fun _ _ _ h => h) (Or.inl ⟨by kernel_rfl, fun W hSw => ?_⟩) (by assumption) ?_
                · (try dsimp only at hSw)
                  go_simp
                (try simp only [Act.put, List.setIfInBounds_toArray, List.set_cons_zero, List.set_cons_succ])
                refine wpAnyH_take (i := 4) (v := .slice (some ⟨gl, 0, none⟩) k cap6) rfl (by kernel_rfl) (by kernel_rfl) (by kernel_rfl) (fun _ _ _ h => h) (Or.inl ⟨by kernel_rfl, fun W hSw => ?_⟩) (by assumption) ?_
                · (try dsimp only at hSw)
                  go_simp
                (try simp only [Act.put, List.setIfInBounds_toArray, List.set_cons_zero, List.set_cons_succ])
                refine wpAnyH_take (i := 6) (v := .agg #[.int .i64 i, .int .i64 s, .int .i64 p, .int .i64 n, .bool T]) rfl (by kernel_rfl) (by kernel_rfl) (by kernel_rfl) (fun _ _ _ h => h) (Or.inl ⟨by kernel_rfl, fun W hSw => ?_⟩) (by assumption) ?_
                · (try dsimp only at hSw)
                  go_simp
                (try simp only [Act.put, List.setIfInBounds_toArray, List.set_cons_zero, List.set_cons_succ])
                refine wpAnyH_take (i := 9) (v := .slice (some ⟨gl, 0, none⟩) nl cap6) rfl (by kernel_rfl) (by kernel_rfl) (by kernel_rfl) (fun _ _ _ h => h) (Or.inl ⟨by kernel_rfl, fun W hSw => ?_⟩) (by assumption) ?_
                · (try dsimp only at hSw)
                  go_simp
                (try simp only [Act.put, List.setIfInBounds_toArray, List.set_cons_zero, List.set_cons_succ])
                refine wpAnyH_take (i := 10) (v := .int .i64 (k : Int)) rfl (by kernel_rfl) (by kernel_rfl) (by kernel_rfl) (fun _ _ _ h => h) (Or.inl ⟨by kernel_rfl, fun W hSw => ?_⟩) (by assumption) ?_
                · (try dsimp only at hSw)
                  go_simp
                (try simp only [Act.put, List.setIfInBounds_toArray, List.set_cons_zero, List.set_cons_succ])
                refine wpAnyH_take (i := 11) (v := .slice (some ⟨gl, k * 5, none⟩) (nl - k) (cap6 - k)) rfl (by kernel_rfl) (by kernel_rfl) (by kernel_rfl) (fun _ _ _ h => h) (Or.inl ⟨by kernel_rfl, fun W hSw => ?_⟩) (by assumption) ?_
                · (try dsimp only at hSw)
                  go_simp
                (try simp only [Act.put, List.setIfInBounds_toArray, List.set_cons_zero, List.set_cons_succ])
                refine wpAnyH_ready (rs := [1, 7]) (by kernel_rfl) (by simp) ?_
                refine AllReadyH.cons rfl (fun K hK => ?_) (AllReadyH.cons rfl (fun K hK => ?_) AllReadyH.nil)
                · go_simp
                  obtain ⟨wa, ewa⟩ : ∃ X, W0.alloc (.cells #[] 68) = X := ⟨_, rfl⟩
                  obtain ⟨ha, eha⟩ : ∃ x, W0.heap.size = x := ⟨_, rfl⟩
                  have ba : Below W0.heap.size W0 wa := by rw [← ewa]; exact (Below.refl _ _).alloc (Nat.le_refl _) _
                  have oa : Hid (Own fO 68 wa W0.heap.size (.slice (some ⟨ha, 0, none⟩) 0 0) []) := Lib.hid (by rw [← ewa, ← eha]; exact own_empty _ W0 _ D0.out.size)
                  have Da := Lib.hid (D0.out.trans (ba.mono D0.out.size))
                  have za := HSx.out wa Da.out
                  rw [ewa, eha]
                  replace ewa := Lib.hid ewa
                  replace eha := Lib.hid eha
                  clear ba
                  refine hK.out _ _ za (fun hHeld => ?_)
                  clear hK K
                  (try simp only [Act.put, List.setIfInBounds_toArray, List.set_cons_zero, List.set_cons_succ])
                  refine wpAnyH_ready (rs := [5, 7]) (by kernel_rfl) (by simp) ?_
                  refine AllReadyH.cons rfl (fun K hK => ?_) (AllReadyH.cons rfl (fun K hK => ?_) AllReadyH.nil)
                  · rw [if_pos (by kernel_rfl)]
                    refine wp_onto_g (fm := fO) (T := 68) (.tmp 131) (.tmp 134) 25 (by rfl) W0.heap.size i0 (.agg #[.int .i64 0, .int .i64 0, .int .i64 0, .int .i64 0, .bool false]) 40 Try.underlying25 hi0 hz0 hz1 hz2 rfl (by decide) (.slice (some ⟨ha, 0, none⟩) 0 0) [] (by rfl) oa.out (some ⟨gl, 0, none⟩) k cap6 (M.take k) (by rfl) ((HVM.out.below Da.out).take hk) (fun e => by cases e) (by simp; omega) Da.out.size ?_
                    intro v5 w5 o5 g5 k5
                    have D5 := Lib.hid (Da.out.grown g5 Da.out.size (fun q hq => (oa.out.lt q hq).1))
                    have z5 := HSx.out w5 D5.out
                    replace o5 := Lib.hid o5
                    clear g5 k5
                    refine hK.out _ _ z5 (fun hHeld => ?_)
                    clear hK K
                    (try simp only [Act.put, List.setIfInBounds_toArray, List.set_cons_zero, List.set_cons_succ])
                    refine wpAnyH_ready (rs := [7]) (by kernel_rfl) (by simp) ?_
                    refine AllReadyH.cons rfl (fun K hK => ?_) AllReadyH.nil
                    go_simp
                    obtain ⟨wb, ewb⟩ : ∃ X, w5.alloc (.cells #[.int .i64 i, .int .i64 s, .int .i64 p, .int .i64 n, .bool T] 68) = X := ⟨_, rfl⟩
                    obtain ⟨hb, ehb⟩ : ∃ x, w5.heap.size = x := ⟨_, rfl⟩
                    have bb : Below w5.heap.size w5 wb := by rw [← ewb]; exact (Below.refl _ _).alloc (Nat.le_refl _) _
                    have hgb : wb.heap[hb]? = some (.cells #[.int .i64 i, .int .i64 s, .int .i64 p, .int .i64 n, .bool T] 68 (0, 0)) := by rw [← ewb, ← ehb]; exact heap_alloc_new w5 _
                    have Hb : Hid (HV fO wb (some ⟨hb, 0, none⟩) 1 [⟨i, s, p, n, T⟩]) := Lib.hid (hv_oneO (x := ⟨i, s, p, n, T⟩) hgb)
                    have hbl : Hid (hb < wb.heap.size) := Lib.hid (Array.getElem?_eq_some_iff.1 hgb).1
                    have Db := Lib.hid (D5.out.trans (bb.mono D5.out.size))
                    have zb := HSx.out wb Db.out
                    have ob := Lib.hid (o5.out.below bb)
                    rw [ewb, ehb]
                    replace ewb := Lib.hid ewb
                    replace ehb := Lib.hid ehb
                    replace hgb := Lib.hid hgb
                    clear bb
                    refine hK.out _ _ zb (fun hHeld => ?_)
                    clear hK K
                    (try simp only [Act.put, List.setIfInBounds_toArray, List.set_cons_zero, List.set_cons_succ])
                    refine wpAnyH_ready (rs := [8]) (by kernel_rfl) (by simp) ?_
                    refine AllReadyH.cons rfl (fun K hK => ?_) AllReadyH.nil
                    rw [if_pos (by kernel_rfl)]
                    refine wp_onto_g (fm := fO) (T := 68) (.tmp 135) (.tmp 137) 25 (by rfl) W0.heap.size i0 (.agg #[.int .i64 0, .int .i64 0, .int .i64 0, .int .i64 0, .bool false]) 40 Try.underlying25 hi0 hz0 hz1 hz2 rfl (by decide) v5 ([] ++ M.take k) (by rfl) ob.out (some ⟨hb, 0, none⟩) 1 1 [⟨i, s, p, n, T⟩] (by rfl) Hb.out (fun e => by cases e) (by simp; omega) Db.out.size ?_
                    intro v8 w8a o8 g8 k8
                    have D8 := Lib.hid (Db.out.grown g8 Db.out.size (fun q hq => (ob.out.lt q hq).1))
                    have z8 := HSx.out w8a D8.out
                    replace o8 := Lib.hid o8
                    clear g8 k8
                    refine hK.out _ _ z8 (fun hHeld => ?_)
                    clear hK K
                    (try simp only [Act.put, List.setIfInBounds_toArray, List.set_cons_zero, List.set_cons_succ])
                    refine wpAnyH_ready (rs := [12]) (by kernel_rfl) (by simp) ?_
                    refine AllReadyH.cons rfl (fun K hK => ?_) AllReadyH.nil
                    rw [if_pos (by kernel_rfl)]
                    refine wp_onto_g (fm := fO) (T := 68) (.tmp 138) (.tmp 141) 25 (by rfl) W0.heap.size i0 (.agg #[.int .i64 0, .int .i64 0, .int .i64 0, .int .i64 0, .bool false]) 40 Try.underlying25 hi0 hz0 hz1 hz2 rfl (by decide) v8 (([] ++ M.take k) ++ [⟨i, s, p, n, T⟩]) (by rfl) o8.out (some ⟨gl, k * 5, none⟩) (nl - k) (cap6 - k) (M.drop k) (by rfl) (by have := (HVM.out.below D8.out).drop hk; rw [Nat.zero_add] at this; exact this) (fun e => by cases e) (by simp; omega) D8.out.size ?_
                    intro v12 w12 o12 g12 k12
                    have D12 := Lib.hid (D8.out.grown g12 D8.out.size (fun q hq => (o8.out.lt q hq).1))
                    have z12 := HSx.out w12 D12.out
                    clear g12 k12
                    obtain ⟨gq, cq, curq, eq, r1, r2, r3, -, -, -, -⟩ := o12.open' (by simp; omega)
                    have hdW : Hid (w12.heap[d]? = some (.cells #[v] 27 (0, 0))) := Lib.hid ((D12.out.block d hdl.out).trans hd0.out)
                    have hdc : w12.cell? ⟨d, 0, none⟩ = some v := by rw [Lib.cell_of_heap hdW.out]; rfl
                    have hdf := Lib.frozen_of_heap hdW.out 0
                    obtain ⟨nq, enq⟩ : ∃ x, ((([] ++ M.take k) ++ [⟨i, s, p, n, T⟩]) ++ M.drop k : List Or).length = x := ⟨_, rfl⟩
                    rw [enq] at eq
                    subst eq
                    replace enq := Lib.hid enq
                    replace r3 := Lib.hid r3
                    replace o12 := Lib.hid o12
                    refine hK.out _ _ z12 (fun hHeld => ?_)
                    clear hK K
                    (try simp only [Act.put, List.setIfInBounds_toArray, List.set_cons_zero, List.set_cons_succ])
                    refine wpAnyH_take (i := 13) (v := .pointer (some ⟨d, 0, none⟩)) rfl (by kernel_rfl) (by kernel_rfl) (by kernel_rfl) (fun _ _ _ h => h) (Or.inl ⟨by kernel_rfl, fun W hSw => ?_⟩) (by assumption) ?_
                    · (try dsimp only at hSw)
                      go_simp
                    (try simp only [Act.put, List.setIfInBounds_toArray, List.set_cons_zero, List.set_cons_succ])
                    refine wpAnyH_take (i := 14) (v := .pointer (some ⟨d, 0, none⟩)) rfl (by kernel_rfl) (by kernel_rfl) (by kernel_rfl) (fun _ _ _ h => h) (Or.inl ⟨by kernel_rfl, fun W hSw => ?_⟩) (by assumption) ?_
                    · (try dsimp only at hSw)
                      go_simp
                    (try simp only [Act.put, List.setIfInBounds_toArray, List.set_cons_zero, List.set_cons_succ])
                    refine wpAnyH_ready (rs := [15]) (by kernel_rfl) (by simp) ?_
                    refine AllReadyH.cons rfl (fun K hK => ?_) AllReadyH.nil
                    have zf : (fun W : World => W.cell? ⟨xb, 0, none⟩ = some (.int .i64 i) ∧ W.cell? ⟨xb, 1, none⟩ = some (.int .i64 s) ∧ W.cell? ⟨xb, 2, none⟩ = some (.int .i64 p) ∧ W.cell? ⟨xb, 3, none⟩ = some (.int .i64 n) ∧ W.cell? ⟨xb, 4, none⟩ = some (.bool T)) (w12.setCell ⟨d, 0, none⟩ (.slice (some ⟨gq, 0, none⟩) nq cq)) := by
                      have h := (set_only w12 d 0 (.slice (some ⟨gq, 0, none⟩) nq cq)).block xb (by have := (Array.getElem?_eq_some_iff.1 hx0.out).1; have := D12.out.size; omega) (fun e => by have e2 : xb = d := e; have := hdx.out; omega)
                      obtain ⟨⟨q0, q1, q2, q3, q4⟩, -⟩ := row5 ((h.trans (D12.out.block xb (Array.getElem?_eq_some_iff.1 hx0.out).1)).trans hx0.out)
                      exact ⟨q0, q1, q2, q3, q4⟩
                    simp only at zf
                    go_simp
                    refine hK.out _ _ zf (fun hHeld => ?_)
                    clear hK K
                    (try simp only [Act.put, List.setIfInBounds_toArray, List.set_cons_zero, List.set_cons_succ])
                    refine wpAnyH_done (by kernel_rfl) ?_ _
                    have hfin : Hid (RStep B d v (0, insO L i s p n) w (.returned (.int .i64 0)) (w12.setCell ⟨d, 0, none⟩ (.slice (some ⟨gq, 0, none⟩) nq cq))) := Lib.hid (by
                      have hq : w.heap.size ≤ gq := by have := BB8.out.size; rw [← eW0.out] at r1; have h2 : w8.drew.heap.size = w8.heap.size := rfl; omega
                      have hRw : Rm B d v L w := hR.out
                      have ho : Own fO 68 w12 w.heap.size (.slice (some ⟨gq, 0, none⟩) nq cq) (insO L i s p n) := by
                        rw [hres.out]
                        have := o12.out
                        rw [List.nil_append, List.append_assoc] at this
                        refine this.base ?_
                        rw [← eW0.out]; exact BB8.out.size
                      refine ⟨.slice (some ⟨gq, 0, none⟩) nq cq, rfl, rm_row hRw (heap_setCell_same w12 d 0 _ _ _ hdW.out) (ho.only (set_only w12 d 0 _) (fun q hq2 e => ?_)), ?_, fun q hq2 => ?_⟩
                      · have e1 : some gq = some q := hq2
                        injection e1 with e1
                        have e2 : q = d := e
                        have := (hRw.lt (.inl rfl)).2
                        omega
                      · have o1 : Only (fun q => q = d) w w12 := by
                          have h8 : Only (fun _ => False) w w8 := only_below (by rw [hxw.out]; exact BB8.out)
                          have h12 : Below w8.heap.size w8 w12 := by
                            have := D12.out
                            rw [← eW0.out] at this
                            exact ⟨this.os, this.tape, this.output, this.size, this.block⟩
                          exact (h8.trans (only_below (h12)) ).mono (fun _ _ e => e.elim)
                        exact o1.trans (set_only w12 d 0 _)
                      · rcases hq2 with e | e
                        · exact .inl (.inl e)
                        · have e1 : some gq = some q := e
                          injection e1 with e1
                          exact .inr (by omega))
                    go_wp2_with fail
                    go_ret
                    rw [hP.out]
                    exact hfin.out
                  · go_simp
                    obtain ⟨wb, ewb⟩ : ∃ X, wa.alloc (.cells #[.int .i64 i, .int .i64 s, .int .i64 p, .int .i64 n, .bool T] 68) = X := ⟨_, rfl⟩
                    obtain ⟨hb, ehb⟩ : ∃ x, wa.heap.size = x := ⟨_, rfl⟩
                    have bb : Below wa.heap.size wa wb := by rw [← ewb]; exact (Below.refl _ _).alloc (Nat.le_refl _) _
                    have hgb : wb.heap[hb]? = some (.cells #[.int .i64 i, .int .i64 s, .int .i64 p, .int .i64 n, .bool T] 68 (0, 0)) := by rw [← ewb, ← ehb]; exact heap_alloc_new wa _
                    have Hb : Hid (HV fO wb (some ⟨hb, 0, none⟩) 1 [⟨i, s, p, n, T⟩]) := Lib.hid (hv_oneO (x := ⟨i, s, p, n, T⟩) hgb)
                    have hbl : Hid (hb < wb.heap.size) := Lib.hid (Array.getElem?_eq_some_iff.1 hgb).1
                    have Db := Lib.hid (Da.out.trans (bb.mono Da.out.size))
                    have zb := HSx.out wb Db.out
                    have ob := Lib.hid (oa.out.below bb)
                    have hab : Hid (ha ≠ hb) := Lib.hid (by have := (oa.out.lt ha rfl).2; omega)
                    rw [ewb, ehb]
                    replace ewb := Lib.hid ewb
                    replace ehb := Lib.hid ehb
                    replace hgb := Lib.hid hgb
                    clear bb
                    refine hK.out _ _ zb (fun hHeld => ?_)
                    clear hK K
                    (try simp only [Act.put, List.setIfInBounds_toArray, List.set_cons_zero, List.set_cons_succ])
                    refine wpAnyH_ready (rs := [5]) (by kernel_rfl) (by simp) ?_
                    refine AllReadyH.cons rfl (fun K hK => ?_) AllReadyH.nil
                    rw [if_pos (by kernel_rfl)]
                    refine wp_onto_g (fm := fO) (T := 68) (.tmp 131) (.tmp 134) 25 (by rfl) W0.heap.size i0 (.agg #[.int .i64 0, .int .i64 0, .int .i64 0, .int .i64 0, .bool false]) 40 Try.underlying25 hi0 hz0 hz1 hz2 rfl (by decide) (.slice (some ⟨ha, 0, none⟩) 0 0) [] (by rfl) ob.out (some ⟨gl, 0, none⟩) k cap6 (M.take k) (by rfl) ((HVM.out.below Db.out).take hk) (fun e => by cases e) (by simp; omega) Db.out.size ?_
                    intro v5 w5 o5 g5 k5
                    have D5 := Lib.hid (Db.out.grown g5 Db.out.size (fun q hq => (ob.out.lt q hq).1))
                    have z5 := HSx.out w5 D5.out
                    have Hb5 : Hid (HV fO w5 (some ⟨hb, 0, none⟩) 1 [⟨i, s, p, n, T⟩]) := Lib.hid (Hb.out.keep (fun b ⟨off, e⟩ hlt => g5.block b hlt (fun e2 => by
                      injection e with e
                      injection e with e e3
                      have e4 : some b = some ha := e2
                      injection e4 with e4
                      exact hab.out (by omega))))
                    replace o5 := Lib.hid o5
                    clear g5 k5
                    refine hK.out _ _ z5 (fun hHeld => ?_)
                    clear hK K
                    (try simp only [Act.put, List.setIfInBounds_toArray, List.set_cons_zero, List.set_cons_succ])
                    refine wpAnyH_ready (rs := [8]) (by kernel_rfl) (by simp) ?_
                    refine AllReadyH.cons rfl (fun K hK => ?_) AllReadyH.nil
                    rw [if_pos (by kernel_rfl)]
                    refine wp_onto_g (fm := fO) (T := 68) (.tmp 135) (.tmp 137) 25 (by rfl) W0.heap.size i0 (.agg #[.int .i64 0, .int .i64 0, .int .i64 0, .int .i64 0, .bool false]) 40 Try.underlying25 hi0 hz0 hz1 hz2 rfl (by decide) v5 ([] ++ M.take k) (by rfl) o5.out (some ⟨hb, 0, none⟩) 1 1 [⟨i, s, p, n, T⟩] (by rfl) Hb5.out (fun e => by cases e) (by simp; omega) D5.out.size ?_
                    intro v8 w8a o8 g8 k8
                    have D8 := Lib.hid (D5.out.grown g8 D5.out.size (fun q hq => (o5.out.lt q hq).1))
                    have z8 := HSx.out w8a D8.out
                    replace o8 := Lib.hid o8
                    clear g8 k8
                    refine hK.out _ _ z8 (fun hHeld => ?_)
                    clear hK K
                    (try simp only [Act.put, List.setIfInBounds_toArray, List.set_cons_zero, List.set_cons_succ])
                    refine wpAnyH_ready (rs := [12]) (by kernel_rfl) (by simp) ?_
                    refine AllReadyH.cons rfl (fun K hK => ?_) AllReadyH.nil
                    rw [if_pos (by kernel_rfl)]
                    refine wp_onto_g (fm := fO) (T := 68) (.tmp 138) (.tmp 141) 25 (by rfl) W0.heap.size i0 (.agg #[.int .i64 0, .int .i64 0, .int .i64 0, .int .i64 0, .bool false]) 40 Try.underlying25 hi0 hz0 hz1 hz2 rfl (by decide) v8 (([] ++ M.take k) ++ [⟨i, s, p, n, T⟩]) (by rfl) o8.out (some ⟨gl, k * 5, none⟩) (nl - k) (cap6 - k) (M.drop k) (by rfl) (by have := (HVM.out.below D8.out).drop hk; rw [Nat.zero_add] at this; exact this) (fun e => by cases e) (by simp; omega) D8.out.size ?_
                    intro v12 w12 o12 g12 k12
                    have D12 := Lib.hid (D8.out.grown g12 D8.out.size (fun q hq => (o8.out.lt q hq).1))
                    have z12 := HSx.out w12 D12.out
                    clear g12 k12
                    obtain ⟨gq, cq, curq, eq, r1, r2, r3, -, -, -, -⟩ := o12.open' (by simp; omega)
                    have hdW : Hid (w12.heap[d]? = some (.cells #[v] 27 (0, 0))) := Lib.hid ((D12.out.block d hdl.out).trans hd0.out)
                    have hdc : w12.cell? ⟨d, 0, none⟩ = some v := by rw [Lib.cell_of_heap hdW.out]; rfl
                    have hdf := Lib.frozen_of_heap hdW.out 0
                    obtain ⟨nq, enq⟩ : ∃ x, ((([] ++ M.take k) ++ [⟨i, s, p, n, T⟩]) ++ M.drop k : List Or).length = x := ⟨_, rfl⟩
                    rw [enq] at eq
                    subst eq
                    replace enq := Lib.hid enq
                    replace r3 := Lib.hid r3
                    replace o12 := Lib.hid o12
                    refine hK.out _ _ z12 (fun hHeld => ?_)
                    clear hK K
                    (try simp only [Act.put, List.setIfInBounds_toArray, List.set_cons_zero, List.set_cons_succ])
                    refine wpAnyH_take (i := 13) (v := .pointer (some ⟨d, 0, none⟩)) rfl (by kernel_rfl) (by kernel_rfl) (by kernel_rfl) (fun _ _ _ h => h) (Or.inl ⟨by kernel_rfl, fun W hSw => ?_⟩) (by assumption) ?_
                    · (try dsimp only at hSw)
                      go_simp
                    (try simp only [Act.put, List.setIfInBounds_toArray, List.set_cons_zero, List.set_cons_succ])
                    refine wpAnyH_take (i := 14) (v := .pointer (some ⟨d, 0, none⟩)) rfl (by kernel_rfl) (by kernel_rfl) (by kernel_rfl) (fun _ _ _ h => h) (Or.inl ⟨by kernel_rfl, fun W hSw => ?_⟩) (by assumption) ?_
                    · (try dsimp only at hSw)
                      go_simp
                    (try simp only [Act.put, List.setIfInBounds_toArray, List.set_cons_zero, List.set_cons_succ])
                    refine wpAnyH_ready (rs := [15]) (by kernel_rfl) (by simp) ?_
                    refine AllReadyH.cons rfl (fun K hK => ?_) AllReadyH.nil
                    have zf : (fun W : World => W.cell? ⟨xb, 0, none⟩ = some (.int .i64 i) ∧ W.cell? ⟨xb, 1, none⟩ = some (.int .i64 s) ∧ W.cell? ⟨xb, 2, none⟩ = some (.int .i64 p) ∧ W.cell? ⟨xb, 3, none⟩ = some (.int .i64 n) ∧ W.cell? ⟨xb, 4, none⟩ = some (.bool T)) (w12.setCell ⟨d, 0, none⟩ (.slice (some ⟨gq, 0, none⟩) nq cq)) := by
                      have h := (set_only w12 d 0 (.slice (some ⟨gq, 0, none⟩) nq cq)).block xb (by have := (Array.getElem?_eq_some_iff.1 hx0.out).1; have := D12.out.size; omega) (fun e => by have e2 : xb = d := e; have := hdx.out; omega)
                      obtain ⟨⟨q0, q1, q2, q3, q4⟩, -⟩ := row5 ((h.trans (D12.out.block xb (Array.getElem?_eq_some_iff.1 hx0.out).1)).trans hx0.out)
                      exact ⟨q0, q1, q2, q3, q4⟩
                    simp only at zf
                    go_simp
                    refine hK.out _ _ zf (fun hHeld => ?_)
                    clear hK K
                    (try simp only [Act.put, List.setIfInBounds_toArray, List.set_cons_zero, List.set_cons_succ])
                    refine wpAnyH_done (by kernel_rfl) ?_ _
                    have hfin : Hid (RStep B d v (0, insO L i s p n) w (.returned (.int .i64 0)) (w12.setCell ⟨d, 0, none⟩ (.slice (some ⟨gq, 0, none⟩) nq cq))) := Lib.hid (by
                      have hq : w.heap.size ≤ gq := by have := BB8.out.size; rw [← eW0.out] at r1; have h2 : w8.drew.heap.size = w8.heap.size := rfl; omega
                      have hRw : Rm B d v L w := hR.out
                      have ho : Own fO 68 w12 w.heap.size (.slice (some ⟨gq, 0, none⟩) nq cq) (insO L i s p n) := by
                        rw [hres.out]
                        have := o12.out
                        rw [List.nil_append, List.append_assoc] at this
                        refine this.base ?_
                        rw [← eW0.out]; exact BB8.out.size
                      refine ⟨.slice (some ⟨gq, 0, none⟩) nq cq, rfl, rm_row hRw (heap_setCell_same w12 d 0 _ _ _ hdW.out) (ho.only (set_only w12 d 0 _) (fun q hq2 e => ?_)), ?_, fun q hq2 => ?_⟩
                      · have e1 : some gq = some q := hq2
                        injection e1 with e1
                        have e2 : q = d := e
                        have := (hRw.lt (.inl rfl)).2
                        omega
                      · have o1 : Only (fun q => q = d) w w12 := by
                          have h8 : Only (fun _ => False) w w8 := only_below (by rw [hxw.out]; exact BB8.out)
                          have h12 : Below w8.heap.size w8 w12 := by
                            have := D12.out
                            rw [← eW0.out] at this
                            exact ⟨this.os, this.tape, this.output, this.size, this.block⟩
                          exact (h8.trans (only_below (h12)) ).mono (fun _ _ e => e.elim)
                        exact o1.trans (set_only w12 d 0 _)
                      · rcases hq2 with e | e
                        · exact .inl (.inl e)
                        · have e1 : some gq = some q := e
                          injection e1 with e1
                          exact .inr (by omega))
                    go_wp2_with fail
                    go_ret
                    rw [hP.out]
                    exact hfin.out
                · go_simp
                  obtain ⟨wb, ewb⟩ : ∃ X, W0.alloc (.cells #[.int .i64 i, .int .i64 s, .int .i64 p, .int .i64 n, .bool T] 68) = X := ⟨_, rfl⟩
                  obtain ⟨hb, ehb⟩ : ∃ x, W0.heap.size = x := ⟨_, rfl⟩
                  have bb : Below W0.heap.size W0 wb := by rw [← ewb]; exact (Below.refl _ _).alloc (Nat.le_refl _) _
                  have hgb : wb.heap[hb]? = some (.cells #[.int .i64 i, .int .i64 s, .int .i64 p, .int .i64 n, .bool T] 68 (0, 0)) := by rw [← ewb, ← ehb]; exact heap_alloc_new W0 _
                  have Hb : Hid (HV fO wb (some ⟨hb, 0, none⟩) 1 [⟨i, s, p, n, T⟩]) := Lib.hid (hv_oneO (x := ⟨i, s, p, n, T⟩) hgb)
                  have hbl : Hid (hb < wb.heap.size) := Lib.hid (Array.getElem?_eq_some_iff.1 hgb).1
                  have Db := Lib.hid (D0.out.trans (bb.mono D0.out.size))
                  have zb := HSx.out wb Db.out
                  rw [ewb, ehb]
                  replace ewb := Lib.hid ewb
                  replace ehb := Lib.hid ehb
                  replace hgb := Lib.hid hgb
                  clear bb
                  refine hK.out _ _ zb (fun hHeld => ?_)
                  clear hK K
                  (try simp only [Act.put, List.setIfInBounds_toArray, List.set_cons_zero, List.set_cons_succ])
                  refine wpAnyH_ready (rs := [1]) (by kernel_rfl) (by simp) ?_
                  refine AllReadyH.cons rfl (fun K hK => ?_) AllReadyH.nil
                  go_simp
                  obtain ⟨wa, ewa⟩ : ∃ X, wb.alloc (.cells #[] 68) = X := ⟨_, rfl⟩
                  obtain ⟨ha, eha⟩ : ∃ x, wb.heap.size = x := ⟨_, rfl⟩
                  have ba : Below wb.heap.size wb wa := by rw [← ewa]; exact (Below.refl _ _).alloc (Nat.le_refl _) _
                  have oa : Hid (Own fO 68 wa W0.heap.size (.slice (some ⟨ha, 0, none⟩) 0 0) []) := Lib.hid (by rw [← ewa, ← eha]; exact own_empty _ wb _ Db.out.size)
                  have Da := Lib.hid (Db.out.trans (ba.mono Db.out.size))
                  have za := HSx.out wa Da.out
                  have hab : Hid (ha ≠ hb) := Lib.hid (by have := hbl.out; omega)
                  have Hba := Lib.hid (Hb.out.below ba)
                  rw [ewa, eha]
                  replace ewa := Lib.hid ewa
                  replace eha := Lib.hid eha
                  clear ba
                  refine hK.out _ _ za (fun hHeld => ?_)
                  clear hK K
                  (try simp only [Act.put, List.setIfInBounds_toArray, List.set_cons_zero, List.set_cons_succ])
                  refine wpAnyH_ready (rs := [5]) (by kernel_rfl) (by simp) ?_
                  refine AllReadyH.cons rfl (fun K hK => ?_) AllReadyH.nil
                  rw [if_pos (by kernel_rfl)]
                  refine wp_onto_g (fm := fO) (T := 68) (.tmp 131) (.tmp 134) 25 (by rfl) W0.heap.size i0 (.agg #[.int .i64 0, .int .i64 0, .int .i64 0, .int .i64 0, .bool false]) 40 Try.underlying25 hi0 hz0 hz1 hz2 rfl (by decide) (.slice (some ⟨ha, 0, none⟩) 0 0) [] (by rfl) oa.out (some ⟨gl, 0, none⟩) k cap6 (M.take k) (by rfl) ((HVM.out.below Da.out).take hk) (fun e => by cases e) (by simp; omega) Da.out.size ?_
                  intro v5 w5 o5 g5 k5
                  have D5 := Lib.hid (Da.out.grown g5 Da.out.size (fun q hq => (oa.out.lt q hq).1))
                  have z5 := HSx.out w5 D5.out
                  have Hb5 : Hid (HV fO w5 (some ⟨hb, 0, none⟩) 1 [⟨i, s, p, n, T⟩]) := Lib.hid (Hba.out.keep (fun b ⟨off, e⟩ hlt => g5.block b hlt (fun e2 => by
                    injection e with e
                    injection e with e e3
                    have e4 : some b = some ha := e2
                    injection e4 with e4
                    exact hab.out (by omega))))
                  replace o5 := Lib.hid o5
                  clear g5 k5
                  refine hK.out _ _ z5 (fun hHeld => ?_)
                  clear hK K
                  (try simp only [Act.put, List.setIfInBounds_toArray, List.set_cons_zero, List.set_cons_succ])
                  refine wpAnyH_ready (rs := [8]) (by kernel_rfl) (by simp) ?_
                  refine AllReadyH.cons rfl (fun K hK => ?_) AllReadyH.nil
                  rw [if_pos (by kernel_rfl)]
                  refine wp_onto_g (fm := fO) (T := 68) (.tmp 135) (.tmp 137) 25 (by rfl) W0.heap.size i0 (.agg #[.int .i64 0, .int .i64 0, .int .i64 0, .int .i64 0, .bool false]) 40 Try.underlying25 hi0 hz0 hz1 hz2 rfl (by decide) v5 ([] ++ M.take k) (by rfl) o5.out (some ⟨hb, 0, none⟩) 1 1 [⟨i, s, p, n, T⟩] (by rfl) Hb5.out (fun e => by cases e) (by simp; omega) D5.out.size ?_
                  intro v8 w8a o8 g8 k8
                  have D8 := Lib.hid (D5.out.grown g8 D5.out.size (fun q hq => (o5.out.lt q hq).1))
                  have z8 := HSx.out w8a D8.out
                  replace o8 := Lib.hid o8
                  clear g8 k8
                  refine hK.out _ _ z8 (fun hHeld => ?_)
                  clear hK K
                  (try simp only [Act.put, List.setIfInBounds_toArray, List.set_cons_zero, List.set_cons_succ])
                  refine wpAnyH_ready (rs := [12]) (by kernel_rfl) (by simp) ?_
                  refine AllReadyH.cons rfl (fun K hK => ?_) AllReadyH.nil
                  rw [if_pos (by kernel_rfl)]
                  refine wp_onto_g (fm := fO) (T := 68) (.tmp 138) (.tmp 141) 25 (by rfl) W0.heap.size i0 (.agg #[.int .i64 0, .int .i64 0, .int .i64 0, .int .i64 0, .bool false]) 40 Try.underlying25 hi0 hz0 hz1 hz2 rfl (by decide) v8 (([] ++ M.take k) ++ [⟨i, s, p, n, T⟩]) (by rfl) o8.out (some ⟨gl, k * 5, none⟩) (nl - k) (cap6 - k) (M.drop k) (by rfl) (by have := (HVM.out.below D8.out).drop hk; rw [Nat.zero_add] at this; exact this) (fun e => by cases e) (by simp; omega) D8.out.size ?_
                  intro v12 w12 o12 g12 k12
                  have D12 := Lib.hid (D8.out.grown g12 D8.out.size (fun q hq => (o8.out.lt q hq).1))
                  have z12 := HSx.out w12 D12.out
                  clear g12 k12
                  obtain ⟨gq, cq, curq, eq, r1, r2, r3, -, -, -, -⟩ := o12.open' (by simp; omega)
                  have hdW : Hid (w12.heap[d]? = some (.cells #[v] 27 (0, 0))) := Lib.hid ((D12.out.block d hdl.out).trans hd0.out)
                  have hdc : w12.cell? ⟨d, 0, none⟩ = some v := by rw [Lib.cell_of_heap hdW.out]; rfl
                  have hdf := Lib.frozen_of_heap hdW.out 0
                  obtain ⟨nq, enq⟩ : ∃ x, ((([] ++ M.take k) ++ [⟨i, s, p, n, T⟩]) ++ M.drop k : List Or).length = x := ⟨_, rfl⟩
                  rw [enq] at eq
                  subst eq
                  replace enq := Lib.hid enq
                  replace r3 := Lib.hid r3
                  replace o12 := Lib.hid o12
                  refine hK.out _ _ z12 (fun hHeld => ?_)
                  clear hK K
                  (try simp only [Act.put, List.setIfInBounds_toArray, List.set_cons_zero, List.set_cons_succ])
                  refine wpAnyH_take (i := 13) (v := .pointer (some ⟨d, 0, none⟩)) rfl (by kernel_rfl) (by kernel_rfl) (by kernel_rfl) (fun _ _ _ h => h) (Or.inl ⟨by kernel_rfl, fun W hSw => ?_⟩) (by assumption) ?_
                  · (try dsimp only at hSw)
                    go_simp
                  (try simp only [Act.put, List.setIfInBounds_toArray, List.set_cons_zero, List.set_cons_succ])
                  refine wpAnyH_take (i := 14) (v := .pointer (some ⟨d, 0, none⟩)) rfl (by kernel_rfl) (by kernel_rfl) (by kernel_rfl) (fun _ _ _ h => h) (Or.inl ⟨by kernel_rfl, fun W hSw => ?_⟩) (by assumption) ?_
                  · (try dsimp only at hSw)
                    go_simp
                  (try simp only [Act.put, List.setIfInBounds_toArray, List.set_cons_zero, List.set_cons_succ])
                  refine wpAnyH_ready (rs := [15]) (by kernel_rfl) (by simp) ?_
                  refine AllReadyH.cons rfl (fun K hK => ?_) AllReadyH.nil
                  have zf : (fun W : World => W.cell? ⟨xb, 0, none⟩ = some (.int .i64 i) ∧ W.cell? ⟨xb, 1, none⟩ = some (.int .i64 s) ∧ W.cell? ⟨xb, 2, none⟩ = some (.int .i64 p) ∧ W.cell? ⟨xb, 3, none⟩ = some (.int .i64 n) ∧ W.cell? ⟨xb, 4, none⟩ = some (.bool T)) (w12.setCell ⟨d, 0, none⟩ (.slice (some ⟨gq, 0, none⟩) nq cq)) := by
                    have h := (set_only w12 d 0 (.slice (some ⟨gq, 0, none⟩) nq cq)).block xb (by have := (Array.getElem?_eq_some_iff.1 hx0.out).1; have := D12.out.size; omega) (fun e => by have e2 : xb = d := e; have := hdx.out; omega)
                    obtain ⟨⟨q0, q1, q2, q3, q4⟩, -⟩ := row5 ((h.trans (D12.out.block xb (Array.getElem?_eq_some_iff.1 hx0.out).1)).trans hx0.out)
                    exact ⟨q0, q1, q2, q3, q4⟩
                  simp only at zf
                  go_simp
                  refine hK.out _ _ zf (fun hHeld => ?_)
                  clear hK K
                  (try simp only [Act.put, List.setIfInBounds_toArray, List.set_cons_zero, List.set_cons_succ])
                  refine wpAnyH_done (by kernel_rfl) ?_ _
                  have hfin : Hid (RStep B d v (0, insO L i s p n) w (.returned (.int .i64 0)) (w12.setCell ⟨d, 0, none⟩ (.slice (some ⟨gq, 0, none⟩) nq cq))) := Lib.hid (by
                    have hq : w.heap.size ≤ gq := by have := BB8.out.size; rw [← eW0.out] at r1; have h2 : w8.drew.heap.size = w8.heap.size := rfl; omega
                    have hRw : Rm B d v L w := hR.out
                    have ho : Own fO 68 w12 w.heap.size (.slice (some ⟨gq, 0, none⟩) nq cq) (insO L i s p n) := by
                      rw [hres.out]
                      have := o12.out
                      rw [List.nil_append, List.append_assoc] at this
                      refine this.base ?_
                      rw [← eW0.out]; exact BB8.out.size
                    refine ⟨.slice (some ⟨gq, 0, none⟩) nq cq, rfl, rm_row hRw (heap_setCell_same w12 d 0 _ _ _ hdW.out) (ho.only (set_only w12 d 0 _) (fun q hq2 e => ?_)), ?_, fun q hq2 => ?_⟩
                    · have e1 : some gq = some q := hq2
                      injection e1 with e1
                      have e2 : q = d := e
                      have := (hRw.lt (.inl rfl)).2
                      omega
                    · have o1 : Only (fun q => q = d) w w12 := by
                        have h8 : Only (fun _ => False) w w8 := only_below (by rw [hxw.out]; exact BB8.out)
                        have h12 : Below w8.heap.size w8 w12 := by
                          have := D12.out
                          rw [← eW0.out] at this
                          exact ⟨this.os, this.tape, this.output, this.size, this.block⟩
                        exact (h8.trans (only_below (h12)) ).mono (fun _ _ e => e.elim)
                      exact o1.trans (set_only w12 d 0 _)
                    · rcases hq2 with e | e
                      · exact .inl (.inl e)
                      · have e1 : some gq = some q := e
                        injection e1 with e1
                        exact .inr (by omega))
                  go_wp2_with fail
                  go_ret
                  rw [hP.out]
                  exact hfin.out
        · rw [i6] at HI
          rw [hasI_yes (x := x) (by rw [i3]; simp) i4, if_pos rfl] at e1
          subst e1
          have hP : Hid (PP = (25, L)) := Lib.hid (by rw [eadd.out, if_neg (by omega)])
          have k3 : (0 : Int) ≤ (A'.length : Int) := by omega
          have k4 : decide ((0 : Int) ≤ (A'.length : Int)) = true := decide_eq_true k3
          replace i2 := Lib.hid i2
          replace i3 := Lib.hid i3
          replace i4 := Lib.hid i4
          clear i5 i6
          go_wp2_with fail
          refine HI.out.mono ?_
          rintro e w1 ⟨rfl, rfl⟩
          go_wp2_with fail
          go_ret
          rw [hP.out]
          exact rstep_same hR.out (Below.refl _ _)
  · have h1 : s ≠ 1 := fun e => hs (.inl e)
    have h2 : s ≠ 2 := fun e => hs (.inr e)
    have k1 : (s != 1) = true := by simpa using h1
    have k2 : (s != 2) = true := by simpa using h2
    have e1 : R = 21 := by rw [← eR]; unfold refO sideB; rw [if_pos (by simp; omega)]
    subst e1
    have hP : Hid (PP = (21, L)) := Lib.hid (by rw [eadd.out, if_neg (by omega)])
    replace eR := Lib.hid eR
    clear hs h1 h2
    go_wp2_with fail
    go_ret
    rw [hP.out]
    exact rstep_same hR.out (Below.refl _ _)
end Go.Proofs.Ytlknlicokacoiaa
