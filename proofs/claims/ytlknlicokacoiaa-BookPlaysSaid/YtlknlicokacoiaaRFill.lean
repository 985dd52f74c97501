/-
  Contract: Fill, of cornhillref9.
-/
import Derived.Test.YtlknlicokacoiaaRLad
import Derived.Test.YtlknlicokacoiaaRAt
import Derived.Test.YtlknlicokacoiaaBkDel
namespace Go.Proofs.Ytlknlicokacoiaa
open Go.RowKit
set_option linter.unusedVariables false
set_option linter.unusedSimpArgs false

def RStep (B d : Nat) (v : Value) (r : Int × List Or) (w : World) (e : Ending) (w' : World) : Prop := ∃ v', e = .returned (.int .i64 r.1) ∧ Rm B d v' r.2 w' ∧ Only (fun k => k = d) w w' ∧ (∀ k, rfoot d v' k → rfoot d v k ∨ w.heap.size ≤ k)
theorem rstep_same {B d : Nat} {v : Value} {L : List Or} {f : Int} {w w' : World} (h : Rm B d v L w) (hb : Below w.heap.size w w') : RStep B d v (f, L) w (.returned (.int .i64 f)) w' :=
  ⟨v, rfl, h.below hb, (only_below hb).mono (fun _ _ e => e.elim), fun k hk => .inl hk⟩
theorem rm_row {B d g n cap : Nat} {v : Value} {L L' : List Or} {w w' : World} (h : Rm B d v L w) (hd : w'.heap[d]? = some (.cells #[.slice (some ⟨g, 0, none⟩) n cap] 27 (0, 0))) (ho : Own fO 68 w' w.heap.size (.slice (some ⟨g, 0, none⟩) n cap) L') : Rm B d (.slice (some ⟨g, 0, none⟩) n cap) L' w' := by
  have h1 := (ho.lt g rfl).1
  have h2 := h.lt (.inl rfl)
  refine ⟨hd, ho.base (by omega), h.lo, fun e => ?_⟩
  have e1 : some g = some d := e
  injection e1 with e1
  omega
theorem splice_rows5 (Z cur : List Value) (n m at' : Nat) (hm : n = m + 1) (hZ : Z.length = n * 5) (ha : at' < n) (hc : n * 5 ≤ cur.length) (ht : cur.take (n * 5) = Z) :
    (splice cur (at' * 5) (Z.drop ((at' + 1) * 5))).take (m * 5) = Z.take (at' * 5) ++ Z.drop ((at' + 1) * 5) := by
  have hl2 : (Z.drop ((at' + 1) * 5)).length = (n - (at' + 1)) * 5 := by rw [List.length_drop, hZ]; omega
  have e4 : cur.take (at' * 5) = Z.take (at' * 5) := by rw [← ht, List.take_take]; congr 1; omega
  unfold splice
  rw [e4, ← List.append_assoc]
  have h5 : (Z.take (at' * 5) ++ Z.drop ((at' + 1) * 5)).length = m * 5 := by rw [List.length_append, List.length_take, hl2, hZ]; omega
  rw [List.take_append_of_le_length (by omega), List.take_of_length_le (by omega)]
set_option maxRecDepth 100000 in
set_option maxHeartbeats 4000000 in
theorem RFill_any (B d : Nat) (v : Value) (L : List Or) (i n : Int) (w : World) (hR : Hid (Rm B d v L w)) (hn : L.length ≤ 100000) (hI : I64 n) (hF : Hid (∀ x ∈ L, 1 ≤ x.n ∧ x.n ≤ 1000000)) :
    Calls Try.prog 26 #[.pointer (some ⟨d, 0, none⟩), .int .i64 i, .int .i64 n] w (RStep B d v (fillO L i n) w) := by
  have HI := Lib.hid (RFindI_any B d v L i w hR (by omega))
  obtain ⟨P, eP⟩ : ∃ P, fillO L i n = P := ⟨_, rfl⟩
  rw [eP]
  rcases idxO_cases L i with ⟨e1, e2, -⟩ | ⟨A', x, C, e2, e3, -, -, e5⟩
  · have hP : Hid (P = (26, L)) := Lib.hid (by rw [← eP]; unfold fillO; rw [e2])
    rw [e1] at HI
    clear eP e1 e2
    go_enter Try.func26, Try.ntmps26
    go_wp2_with fail
    refine HI.out.mono ?_
    rintro e w1 ⟨rfl, rfl⟩
    go_wp2_with fail
    go_ret
    rw [hP.out]
    exact rstep_same hR.out (Below.refl _ _)
  · rw [e5] at HI
    have hPx : P = if n < 1 ∨ x.n < n then (24, L) else if x.n - n = 0 then (0, A' ++ C) else (0, A' ++ { x with n := x.n - n } :: C) := by rw [← eP]; unfold fillO; rw [e2]
    obtain ⟨k, ek⟩ : ∃ k, A'.length = k := ⟨_, rfl⟩
    rw [ek] at HI
    have hx : L[k]? = some x := by rw [e3, ← ek]; simp
    obtain ⟨c0, fz0⟩ := hR.out.cell
    obtain ⟨A, cap, ev, hv, h1, h2, hA0, -⟩ := hR.out.own.slice
    obtain ⟨nl, en⟩ : ∃ n, L.length = n := ⟨_, rfl⟩
    have hkn : k < nl := by rw [← en]; exact (List.getElem?_eq_some_iff.1 hx).1
    rw [ev, en] at c0
    rw [en] at hn h1 hv
    obtain ⟨gv, off, eA, d0, d1, d2, d3, d4⟩ := hv.atO hx
    obtain ⟨f1, f2⟩ := hF.out x (List.mem_of_getElem? hx)
    subst eA
    have k0 : ¬ (k : Int) < 0 := by omega
    have hki : (k : Int) < (nl : Int) := by omega
    clear eP e2 e5
    obtain ⟨xi, xs, xp, xn, xt⟩ := x
    simp only at d0 d1 d2 d3 d4 f1 f2 hPx
    replace hx := Lib.hid hx
    replace e3 := Lib.hid e3
    replace ek := Lib.hid ek
    replace ev := Lib.hid ev
    replace en := Lib.hid en
    replace hv := Lib.hid hv
    by_cases hbad : n < 1 ∨ xn < n
    · have hP : Hid (P = (24, L)) := Lib.hid (by rw [hPx, if_pos hbad])
      clear hPx
      by_cases hn1 : n < 1
      · have dn : decide (n < 1) = true := decide_eq_true hn1
        go_enter Try.func26, Try.ntmps26
        go_wp2_with fail
        refine HI.out.mono ?_
        rintro e w1 ⟨rfl, rfl⟩
        go_wp2_with fail
        go_ret
        rw [hP.out]
        exact rstep_same hR.out (Below.refl _ _)
      · have hxn : xn < n := hbad.resolve_left hn1
        have dn : decide (n < 1) = false := decide_eq_false hn1
        have dx : decide (xn < n) = true := decide_eq_true hxn
        go_enter Try.func26, Try.ntmps26
        go_wp2_with fail
        refine HI.out.mono ?_
        rintro e w1 ⟨rfl, rfl⟩
        go_wp2_with fail
        go_ret
        rw [hP.out]
        exact rstep_same hR.out (Below.refl _ _)
    · rw [if_neg hbad] at hPx
      have hn1 : ¬ n < 1 := fun h => hbad (.inl h)
      have hxn : ¬ xn < n := fun h => hbad (.inr h)
      have dn : decide (n < 1) = false := decide_eq_false hn1
      have dx : decide (xn < n) = false := decide_eq_false hxn
      replace hPx := Lib.hid hPx
      obtain ⟨i0, hi0, hz0, hz1, hz2⟩ := info_parts info_rorder
      obtain ⟨g, eg⟩ : ∃ g, w.heap.size = g := ⟨_, rfl⟩
      obtain ⟨W5, eW5⟩ : ∃ W, w.alloc (.cells #[] 68) = W := ⟨_, rfl⟩
      have b5 : Below w.heap.size w W5 := by rw [← eW5]; exact (Below.refl _ w).alloc (Nat.le_refl _) _
      have hO5 : Hid (Own fO 68 W5 g (.slice (some ⟨g, 0, none⟩) 0 0) []) := Lib.hid (by rw [← eW5, ← eg]; exact own_empty _ w _ (Nat.le_refl _))
      have hv5 := Lib.hid (hv.out.below b5)
      have hR5 := Lib.hid (hR.out.below b5)
      have hg5 : Hid (g ≤ W5.heap.size) := Lib.hid (by rw [← eg]; exact b5.size)
      have hc5 := hR5.out.cell
      rw [ev.out, en.out] at hc5
      obtain ⟨c5, z5⟩ := hc5
      have hlen : ([] : List Or).length + nl ≤ 1000000 := by simp; omega
      replace b5 := Lib.hid b5
      clear hbad
      go_enter Try.func26, Try.ntmps26
      go_wp2_with fail
      refine HI.out.mono ?_
      rintro e w1 ⟨rfl, rfl⟩
      go_upto_region 6 with (fail)
      go_wp2_with (at_builtin; refine wpList_onto_g (fm := fO) (T := 68) rfl (.tmp 28) (.tmp 32) 25 rfl g i0 (.agg #[.int .i64 0, .int .i64 0, .int .i64 0, .int .i64 0, .bool false]) 40 Try.underlying25 hi0 hz0 hz1 hz2 rfl (by decide) (.slice (some ⟨g, 0, none⟩) 0 0) [] rfl hO5.out (some ⟨gv, off, none⟩) nl cap L rfl hv5.out (fun e => by cases e) hlen hg5.out ?_)
      intro v6 w6 o6 g6 k6
      have o6' : Own fO 68 w6 g v6 L := o6
      have B6 : Below w.heap.size w w6 := b5.out.grown g6 b5.out.size (fun q hq => by
        have e : some g = some q := hq
        injection e with e
        omega)
      have hR6 := hR.out.below B6
      obtain ⟨c6, z6⟩ := hR6.cell
      rw [ev.out, en.out] at c6
      obtain ⟨gb, cap6, cur6, e6, hgb1, hgb2, hgb3, hc1, hc2, hcs, hct⟩ := o6'.open' (by rw [en.out]; omega)
      rw [en.out] at e6 hc1
      subst e6
      have hdl : d < g := by have := (hR.out.lt (.inl rfl)).2; omega
      have hgd : gb ≠ d := by omega
      obtain ⟨W7, eW7⟩ : ∃ X, w6.setCell ⟨d, 0, none⟩ (.slice (some ⟨gb, 0, none⟩) nl cap6) = X := ⟨_, rfl⟩
      have O7 : Own fO 68 W7 w.heap.size (.slice (some ⟨gb, 0, none⟩) nl cap6) L := by
        rw [← eW7, eg]; exact o6'.only (set_only w6 d 0 _) (fun q hq e => by
          have e1 : some gb = some q := hq
          injection e1 with e1
          have e2 : q = d := e
          omega)
      have D7 : W7.heap[d]? = some (.cells #[.slice (some ⟨gb, 0, none⟩) nl cap6] 27 (0, 0)) := by rw [← eW7]; exact heap_setCell_same w6 d 0 _ _ _ hR6.at'
      have On7 : Only (fun q => q = d) w W7 := by
        rw [← eW7]
        exact ((only_below B6).mono (fun _ _ e => e.elim)).trans (set_only w6 d 0 _)
      have hx7 := hx.out
      obtain ⟨A7, cap7, e7, hv7, -, -, -, -⟩ := O7.slice
      injection e7 with e7a e7b e7c
      rw [← e7a] at hv7
      obtain ⟨gx, ox, e8, -, -, -, q3, -⟩ := hv7.atO hx7
      injection e8 with e8
      injection e8 with e8 e9
      subst e8; subst e9
      simp only [Nat.zero_add] at q3
      have r7 : W7.cell? ⟨d, 0, none⟩ = some (.slice (some ⟨gb, 0, none⟩) nl cap6) := by rw [Lib.cell_of_heap D7]; rfl
      have s7 : W7.frozen? ⟨d, 0, none⟩ = false := Lib.frozen_of_heap D7 0
      obtain ⟨gy, capy, cury, ey, -, -, hgy, -, -, -, -⟩ := O7.open' (by rw [en.out]; omega)
      injection ey with ey1 ey2 ey3
      injection ey1 with ey1
      injection ey1 with ey1
      subst ey1
      have t7 := Lib.frozen_of_heap hgy (k * 5 + 3)
      have hsub : IntKind.i64.wrap (xn - n) = xn - n := IntWalk.i64_in _ (by omega)
      have O8 := O7.set (fm := fO) (j := k) (m := 3) (x' := ⟨xi, xs, xp, xn - n, xt⟩) (v := .int .i64 (xn - n)) hx7 (by decide) rfl
      have eL : L.set k ⟨xi, xs, xp, xn - n, xt⟩ = A' ++ ⟨xi, xs, xp, xn - n, xt⟩ :: C := by rw [e3.out, ← ek.out]; simp
      rw [eL] at O8
      have On8 : Only (fun q => q = d) w (W7.setCell ⟨gb, k * 5 + 3, none⟩ (.int .i64 (xn - n))) := ⟨On7.os, On7.tape, On7.output, by have := On7.size; simpa using this, fun q hq hq2 => by
        rw [← On7.block q hq hq2]; exact (set_only W7 gb (k * 5 + 3) _).block q (by have := On7.size; omega) (fun e => by
          have e' : q = gb := e
          omega)⟩
      have D8 : (W7.setCell ⟨gb, k * 5 + 3, none⟩ (.int .i64 (xn - n))).heap[d]? = some (.cells #[.slice (some ⟨gb, 0, none⟩) nl cap6] 27 (0, 0)) := ((set_only W7 gb (k * 5 + 3) _).block d (Array.getElem?_eq_some_iff.1 D7).1 (fun e => hgd (e.symm : gb = d))).trans D7
      obtain ⟨W8, eW8⟩ : ∃ X, (W7.setCell ⟨gb, k * 5 + 3, none⟩ (.int .i64 (xn - n))).drew = X := ⟨_, rfl⟩
      have O9 : Own fO 68 W8 w.heap.size (.slice (some ⟨gb, 0, none⟩) nl cap6) (A' ++ ⟨xi, xs, xp, xn - n, xt⟩ :: C) := by rw [← eW8]; exact O8
      have D9 : W8.heap[d]? = some (.cells #[.slice (some ⟨gb, 0, none⟩) nl cap6] 27 (0, 0)) := by rw [← eW8]; exact D8
      have On9 : Only (fun q => q = d) w W8 := by rw [← eW8]; exact ⟨On8.os, On8.tape, On8.output, On8.size, On8.block⟩
      have hnl : (A' ++ (⟨xi, xs, xp, xn - n, xt⟩ : Or) :: C).length = nl := by rw [← eL, List.length_set, en.out]
      have hx9 : (A' ++ (⟨xi, xs, xp, xn - n, xt⟩ : Or) :: C)[k]? = some ⟨xi, xs, xp, xn - n, xt⟩ := by rw [← ek.out]; simp
      obtain ⟨A9, cap9, ez, hv9, -, -, -, -⟩ := O9.slice
      injection ez with ez1 ez2 ez3
      rw [← ez1] at hv9
      obtain ⟨gx, ox, ex8, -, -, -, p3, -⟩ := hv9.atO hx9
      injection ex8 with ex8
      injection ex8 with ex8 ex9
      subst ex8; subst ex9
      simp only [Nat.zero_add] at p3
      have r9 : W8.cell? ⟨d, 0, none⟩ = some (.slice (some ⟨gb, 0, none⟩) nl cap6) := by rw [Lib.cell_of_heap D9]; rfl
      have s9 : W8.frozen? ⟨d, 0, none⟩ = false := Lib.frozen_of_heap D9 0
      have hc63 : cap6 ≤ 9223372036854775807 := by unfold maxLen at hc2; omega
      have hgw : w.heap.size ≤ gb := by omega
      replace O7 := Lib.hid O7
      replace D7 := Lib.hid D7
      replace On7 := Lib.hid On7
      replace O8 := Lib.hid O8
      replace D8 := Lib.hid D8
      replace On8 := Lib.hid On8
      replace O9 := Lib.hid O9
      replace D9 := Lib.hid D9
      replace On9 := Lib.hid On9
      replace hv9 := Lib.hid hv9
      replace hv7 := Lib.hid hv7
      replace hx7 := Lib.hid hx7
      replace hx9 := Lib.hid hx9
      replace hnl := Lib.hid hnl
      replace eL := Lib.hid eL
      replace eW8 := Lib.hid eW8
      have eg' := Lib.hid eg
      clear o6 o6' g6 k6 B6 hR6 hgb3 hct hcs hgy e7b e7c ez2 ez3 eg ez1 e7a ey2 ey3 c0 fz0 d0 d1 d2 d3 d4 c5 z5 hO5 hv5 hR5
      go_wp2_with fail
      go_upto_region 7 with (fail)
      (try rw [eW7])
      replace eW7 := Lib.hid eW7
      clear c6 z6
      go_region
      rw [eW8.out]
      clear q3 r7 s7 t7
      by_cases hz : xn - n = 0
      · have dz : (xn - n == 0) = true := by simpa using hz
        have hP : Hid (P = (0, A' ++ C)) := Lib.hid (by rw [hPx.out, if_pos hz])
        replace hz := Lib.hid hz
        obtain ⟨m, hm⟩ : ∃ m, nl = m + 1 := ⟨nl - 1, by omega⟩
        obtain ⟨gy, capy, cur, ey, -, hgl, hg, b3, b4, b5, b6⟩ := O9.out.open' (by rw [hnl.out]; omega)
        rw [hnl.out] at ey b3 b6
        injection ey with ey1 ey2 ey3
        injection ey1 with ey1
        injection ey1 with ey1
        subst ey1; subst ey3
        clear ey2
        obtain ⟨L9, eL9⟩ : ∃ l, A' ++ (⟨xi, xs, xp, xn - n, xt⟩ : Or) :: C = l := ⟨_, rfl⟩
        have hAC : A' ++ C = L9.take k ++ L9.drop (k + 1) := by rw [← eL9, ← ek.out]; simp
        have hn9 : L9.length = nl := by rw [← eL9]; exact hnl.out
        rw [eL9] at b6
        obtain ⟨Z, eZ⟩ : ∃ Z, rowsG fO.f L9 = Z := ⟨_, rfl⟩
        have hZl : Z.length = nl * 5 := by rw [← eZ, rowsG_len, hn9]; rfl
        have b6' : cur.toList.take (nl * 5) = Z := by rw [← eZ]; exact b6
        have hone : ∀ v ∈ Z, v.oneCell' = true := by rw [← eZ]; exact rowsG_one_cell L9
        have hcs : cur.size = cap6 * 5 := b5
        have hsp : rowsG fO.f (A' ++ C) = Z.take (k * 5) ++ Z.drop ((k + 1) * 5) := by
          rw [hAC, ← eZ, rowsG_app, show (rowsG fO.f L9).take (k * 5) = (rowsG fO.f L9).take (k * fO.k) from rfl, show (rowsG fO.f L9).drop ((k + 1) * 5) = (rowsG fO.f L9).drop ((k + 1) * fO.k) from rfl, rowsG_take, rowsG_drop]
        have hZc : ∀ j u, Z[j]? = some u → W8.cell? ⟨gb, j, none⟩ = some u := fun j u hj => by
          rw [Lib.cell_of_heap hg]
          rw [← b6', List.getElem?_take] at hj
          split at hj
          · rw [Array.getElem?_toList] at hj; exact hj
          · cases hj
        have hZd : (Z.drop ((k + 1) * 5)).length = (nl - (k + 1)) * 5 := by rw [List.length_drop, hZl]; omega
        obtain ⟨C1, eC1⟩ : ∃ C, splice cur.toList (k * 5) (Z.drop ((k + 1) * 5)) = C := ⟨_, rfl⟩
        have hC1 : C1.length = cap6 * 5 := by rw [← eC1, splice_len _ _ _ (by rw [hZd, Array.length_toList, hcs]; omega), Array.length_toList, hcs]
        obtain ⟨W1, hW1⟩ : ∃ W, W8.drew.setRow gb C1.toArray = W := ⟨_, rfl⟩
        have hap : ∀ (o : Nat) (ty c2 : Nat), (o = (k + 1) * 5 ∨ nl = k + 1) → (Builtin.append_ #[25, 25] ty #[.slice (some ⟨gb, 0, none⟩) k cap6, .slice (some ⟨gb, o, none⟩) (nl - (k + 1)) c2]).run Try.prog W8.drew = .ok (.slice (some ⟨gb, 0, none⟩) m cap6) W1 := fun o ty c2 hor => by
          have := run_append_room_k (P := Try.prog) W8.drew 25 ty 68 i0 5 Try.underlying25 hi0 hz1 gb k cap6 ⟨gb, o, none⟩ (nl - (k + 1)) c2 (Z.drop ((k + 1) * 5)) cur 68 hg hZd (fun j u hj => by
            rw [WideShapes.add_plain]
            rcases hor with rfl | e
            · rw [List.getElem?_drop] at hj; exact hZc _ u hj
            · rw [List.drop_of_length_le (by omega)] at hj; simp at hj) (fun v hv => hone v (List.mem_of_mem_drop hv)) (by omega) (by rw [hZd, hcs]; omega)
          rw [eC1, hW1, show k + (nl - (k + 1)) = m by omega] at this
          exact this
        have hg1 : W1.heap[gb]? = some (.cells C1.toArray 68 (0, 0)) := by rw [← hW1]; exact setRow_heap W8.drew gb cur _ _ _ hg
        have hlen2 : (A' ++ C).length = m := by rw [hAC]; simp only [List.length_append, List.length_take, List.length_drop, hn9]; omega
        have O10 : Own fO 68 W1 w.heap.size (.slice (some ⟨gb, 0, none⟩) m cap6) (A' ++ C) := by
          refine ⟨rowsG_len _, .inr ⟨gb, cap6, _, by rw [hlen2], hgw, hg1, by rw [hlen2]; omega, b4, ?_, ?_⟩⟩
          · rw [List.size_toArray, hC1]; rfl
          · rw [hlen2, hsp, ← eC1]
            exact splice_rows5 Z cur.toList nl m k hm hZl hkn (by rw [Array.length_toList, hcs]; omega) b6'
        have Os : Only (fun q => q = gb) W8 W1 := by
          rw [← hW1]; exact ⟨rfl, rfl, rfl, by simp [World.setRow], fun q hq hq2 => setRow_other W8.drew gb q _ hq2⟩
        have D10 : W1.heap[d]? = some (.cells #[.slice (some ⟨gb, 0, none⟩) nl cap6] 27 (0, 0)) := (Os.block d (Array.getElem?_eq_some_iff.1 D9.out).1 (fun e => hgd e.symm)).trans D9.out
        have rW1 : W1.cell? ⟨d, 0, none⟩ = some (.slice (some ⟨gb, 0, none⟩) nl cap6) := by rw [Lib.cell_of_heap D10]; rfl
        have sW1 : W1.frozen? ⟨d, 0, none⟩ = false := Lib.frozen_of_heap D10 0
        have fin : Hid (RStep B d v P w (.returned (.int .i64 0)) (W1.setCell ⟨d, 0, none⟩ (.slice (some ⟨gb, 0, none⟩) m cap6))) := Lib.hid (by
          rw [hP.out]
          refine ⟨.slice (some ⟨gb, 0, none⟩) m cap6, rfl, rm_row hR.out (heap_setCell_same W1 d 0 _ _ _ D10) (O10.only (set_only W1 d 0 _) (fun q hq e => ?_)), ?_, fun q hq => ?_⟩
          · have e1 : some gb = some q := hq
            injection e1 with e1
            have e2 : q = d := e
            omega
          · have Oq : Only (fun q => q = d) w W1 := ⟨Os.os.trans On9.out.os, Os.tape.trans On9.out.tape, Os.output.trans On9.out.output, Nat.le_trans On9.out.size Os.size, fun q hq hq2 => (Os.block q (by have := On9.out.size; omega) (fun e => by omega)).trans (On9.out.block q hq hq2)⟩
            exact Oq.trans (set_only W1 d 0 _)
          · rcases hq with e | e
            · exact .inl (.inl e)
            · have e1 : some gb = some q := e
              injection e1 with e1
              exact .inr (by omega))
        have hd1 : IntKind.i64.wrap ((k : Int) + 1) = (k : Int) + 1 := IntWalk.i64_in _ (by omega)
        have hd4 : ¬ (cap6 = k) := by omega
        have hd7 : ¬ (nl = k) := by omega
        have hb1 : (0 : Int) ≤ (k : Int) + 1 := by omega
        have hin : k ≤ nl := by omega
        have hin2 : k + 1 ≤ nl := by omega
        have hin3 : k ≤ cap6 := by omega
        have hin4 : k ≤ k + 1 := by omega
        have htn : ((k : Int) + 1).toNat = k + 1 := by omega
        have hb3 : (k : Int) + 1 ≤ (nl : Int) := by omega
        have hb4 : (k : Int) ≤ (k : Int) + 1 := by omega
        replace hm := Lib.hid hm
        replace hn9 := Lib.hid hn9
        replace eL9 := Lib.hid eL9
        replace O10 := Lib.hid O10
        replace D10 := Lib.hid D10
        replace Os := Lib.hid Os
        replace hAC := Lib.hid hAC
        replace hlen2 := Lib.hid hlen2
        have hap1 := fun ty c2 => hap ((k + 1) * 5) ty c2 (.inl rfl)
        by_cases hc1' : cap6 = k + 1
        · have hap2 := fun ty c2 => hap 0 ty c2 (.inr (by omega))
          clear hap hap1 hZl hC1 hW1 hg1 hg b5 b6 b4 hZd hsp eZ b6' hone hZc eC1 hi0 hz0 hz1 hz2 hcs
          subst hc1'
          rw [show nl - (k + 1) = 0 by omega] at hap2
          go_upto_region 9 with (fail)
          go_region_law (refine step_append_run_k rfl _ _ 25 rfl (.slice (some ⟨gb, 0, none⟩) k (k + 1)) (.slice (some ⟨gb, 0, none⟩) 0 0) (by simp [Act.eval, Act.put]) (by simp [Act.eval, Act.put]) (hap2 25 0) ?_)
          go_wp2_with fail
          all_goals (go_ret; exact fin.out)
        · clear hap hZl hC1 hW1 hg1 hg b5 b6 b4 hZd hsp eZ b6' hone hZc eC1 hi0 hz0 hz1 hz2 hcs
          go_upto_region 9 with (fail)
          go_region_law (refine step_append_run_k rfl _ _ 25 rfl (.slice (some ⟨gb, 0, none⟩) k cap6) (.slice (some ⟨gb, (k + 1) * 5, none⟩) (nl - (k + 1)) (cap6 - (k + 1))) (by simp [Act.eval, Act.put]) (by simp [Act.eval, Act.put]) (hap1 25 (cap6 - (k + 1))) ?_)
          go_wp2_with fail
          all_goals (go_ret; exact fin.out)
      · have dz : (xn - n == 0) = false := by simpa using hz
        have hP : Hid (P = (0, A' ++ ⟨xi, xs, xp, xn - n, xt⟩ :: C)) := Lib.hid (by rw [hPx.out, if_neg hz])
        replace hz := Lib.hid hz
        have hRn : Hid (Rm B d (.slice (some ⟨gb, 0, none⟩) nl cap6) (A' ++ ⟨xi, xs, xp, xn - n, xt⟩ :: C) W8) := Lib.hid (rm_row hR.out D9.out O9.out)
        go_wp2_with fail
        go_ret
        rw [hP.out]
        exact ⟨_, rfl, hRn.out, On9.out, fun q hq => by
          rcases hq with e | e
          · exact .inl (.inl e)
          · have e1 : some gb = some q := e
            injection e1 with e1
            exact .inr (by omega)⟩
end Go.Proofs.Ytlknlicokacoiaa
