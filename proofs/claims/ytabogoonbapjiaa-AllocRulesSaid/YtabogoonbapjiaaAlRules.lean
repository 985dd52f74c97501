/-
  The law AllocRules: its walk.
-/
import Derived.Test.YtabogoonbapjiaaAlKnown
import Derived.Test.YtabogoonbapjiaaAlSome
import Derived.Deep.Cut
import Derived.Laws.Tables
import Derived.Laws.CopyOwn
namespace Go.Proofs.Ytabogoonbapjiaa
open Go.RowKit
set_option linter.unusedVariables false
set_option linter.unusedSimpArgs false

theorem Own.set {α : Type} {fm : Fmt α} {T : TypeId} {w : World} {base g n cap : Nat} {l : List α} (h : Own fm T w base (.slice (some ⟨g, 0, none⟩) n cap) l) {j m : Nat} {x x' : α} {v : Value} (hj : l[j]? = some x) (hm : m < fm.k) (hr : fm.f x' = (fm.f x).set m v) : Own fm T (w.setCell ⟨g, j * fm.k + m, none⟩ v) base (.slice (some ⟨g, 0, none⟩) n cap) (l.set j x') := by
  have hl : (l.set j x').length = l.length := List.length_set
  refine ⟨rowsG_len _, ?_⟩
  rcases h.2 with ⟨e0, _⟩ | ⟨g', cap', cur, e0, b1, b2, b3, b4, b5, b6⟩
  · cases e0
  · injection e0 with e1 e2 e3
    injection e1 with e1
    injection e1 with e1
    subst e1; subst e3; subst e2
    refine .inr ⟨g, cap, cur.setIfInBounds (j * fm.k + m) v, by rw [hl], b1, heap_setCell_same w g (j * fm.k + m) cur _ v b2, by rw [hl]; exact b3, b4, by simp [b5], ?_⟩
    rw [hl, Array.toList_setIfInBounds, List.take_set, b6]
    exact rowsG_set l j m x x' v hj hm hr
/-- The first t orders called anew. -/
def anewL (L : List Or) (t : Nat) : List Or := L.mapIdx (fun j x => if j < t then anew j x else x)
theorem anew_len (L : List Or) (t : Nat) : (anewL L t).length = L.length := by simp [anewL]
theorem anew_get (L : List Or) (t j : Nat) : (anewL L t)[j]? = L[j]?.map (fun x => if j < t then anew j x else x) := by simp [anewL]
theorem anew_zero (L : List Or) : anewL L 0 = L := by
  apply List.ext_getElem?
  intro j
  rw [anew_get]
  cases L[j]? <;> simp
theorem anew_at {L : List Or} {t : Nat} {x : Or} (h : L[t]? = some x) : (anewL L t)[t]? = some x := by rw [anew_get, h]; simp
theorem anew_next {L : List Or} {t : Nat} {x : Or} (h : L[t]? = some x) : (anewL L t).set t (anew t x) = anewL L (t + 1) := by
  apply List.ext_getElem?
  intro j
  rw [List.getElem?_set, anew_get, anew_get, anew_len]
  by_cases e : t = j
  · subst e
    rw [if_pos rfl, if_pos (or_lt h), h]
    simp
  · rw [if_neg e]
    cases L[j]? with
    | none => rfl
    | some y =>
      simp only [Option.map_some]
      by_cases e2 : j < t
      · rw [if_pos e2, if_pos (by omega)]
      · rw [if_neg e2, if_neg (by omega)]
theorem anew_qtys (L : List Or) (t : Nat) : qtys (anewL L t) = qtys L := by
  apply List.ext_getElem?
  intro j
  simp only [qtys, List.getElem?_map, anew_get, Option.map_map]
  cases L[j]? with
  | none => rfl
  | some y => simp only [Option.map_some, Function.comp]; split <;> rfl
theorem topO_of {L M : List Or} (h : L.map Or.t = M.map Or.t) : topO L = topO M := by
  have e : ∀ l : List Or, l.findIdx? (fun x => x.t) = (l.map Or.t).findIdx? (fun b => b) := fun l => by rw [List.findIdx?_map]; rfl
  unfold topO
  rw [e L, e M, h]
theorem anew_top (L : List Or) (t : Nat) : topO (anewL L t) = topO L := by
  apply topO_of
  apply List.ext_getElem?
  intro j
  simp only [List.getElem?_map, anew_get, Option.map_map]
  cases L[j]? with
  | none => rfl
  | some y => simp only [Option.map_some, Function.comp]; split <;> rfl
theorem anew_ok {L : List Or} (h : OkO L) (hl : L.length ≤ 1000) (t : Nat) : OkO (anewL L t) := fun y hy => by
  obtain ⟨j, hj, e⟩ := List.getElem_of_mem hy
  have e2 : (anewL L t)[j]? = some y := by rw [List.getElem?_eq_getElem hj, e]
  rw [anew_len] at hj
  obtain ⟨x, hx⟩ := or_at hj
  rw [anew_get, hx] at e2
  have hO := h.at' hx
  simp only [Option.map_some, Option.some.injEq] at e2
  subst e2
  by_cases c : j < t
  · rw [if_pos c]
    exact ⟨⟨by show -9223372036854775808 ≤ (j : Int); omega, by show (j : Int) ≤ 9223372036854775807; omega⟩, ⟨by show (-9223372036854775808 : Int) ≤ 2; decide, by show (2 : Int) ≤ 9223372036854775807; decide⟩, ⟨by show (-9223372036854775808 : Int) ≤ -5; decide, by show (-5 : Int) ≤ 9223372036854775807; decide⟩, hO.n⟩
  · rw [if_neg c]; exact hO
/-- An order is called anew in its row, in three stores. -/
theorem Own.anew3 {w : World} {base g n cap : Nat} {T : TypeId} {L : List Or} {t : Nat} {x : Or} (h : Own fO T w base (.slice (some ⟨g, 0, none⟩) n cap) (anewL L t)) (hx : L[t]? = some x) :
    Own fO T (((w.setCell ⟨g, t * 5, none⟩ (.int .i64 (t : Int))).setCell ⟨g, t * 5 + 2, none⟩ (.int .i64 (-5))).setCell ⟨g, t * 5 + 1, none⟩ (.int .i64 2)) base (.slice (some ⟨g, 0, none⟩) n cap) (anewL L (t + 1)) := by
  have ht : t < (anewL L t).length := by rw [anew_len]; exact or_lt hx
  have h1 := h.set (m := 0) (x' := { x with i := (t : Int) }) (v := .int .i64 (t : Int)) (anew_at hx) (by decide) rfl
  have h2 := h1.set (j := t) (m := 2) (x := { x with i := (t : Int) }) (x' := { x with i := (t : Int), p := -5 }) (v := .int .i64 (-5)) (by rw [List.getElem?_set, if_pos rfl, if_pos ht]) (by decide) rfl
  have h3 := h2.set (j := t) (m := 1) (x := { x with i := (t : Int), p := -5 }) (x' := anew t x) (v := .int .i64 2) (by rw [List.set_set, List.getElem?_set, if_pos rfl, if_pos ht]) (by decide) rfl
  rw [List.set_set, List.set_set, anew_next hx] at h3
  exact h3
theorem setRow_only (w : World) (g : Nat) (cs : Array Value) : Only (fun k => k = g) w (w.setRow g cs) := ⟨rfl, rfl, rfl, by simp [World.setRow], fun k _ hn => setRow_other w g k cs hn⟩
theorem own_block {A : Option Addr} {n c k : Nat} (h : (Value.slice A n c).ownBlock = some k) : ∃ ad, A = some ad ∧ ad.block = k := by
  cases A with
  | none => cases h
  | some ad => exact ⟨ad, rfl, by injection h⟩
theorem own_at {ad : Addr} {n c : Nat} : (Value.slice (some ad) n c).ownBlock = some ad.block := rfl
set_option maxRecDepth 100000 in
set_option maxHeartbeats 8000000 in
theorem ARules_walk (p : PD) (A : Option Addr) (n cap : Nat) (L : List Or) (small : Int) (w : World) (hp : Hid (p.Fit w)) (h : Hid (HV fO w A n L)) (hok : Hid (OkO L)) (s1 : -9223372036854775808 ≤ small) (s2 : small ≤ 9223372036854775807) :
    Calls Try.prog 5 #[p.val, .slice A n cap, .int .i64 small] w fun e w' => e = .returned (.bool true) ∧ Below w.heap.size w w' := by
  obtain ⟨m, k, hm, hk, m1, k1, l30, hR, hRm, hR0, hRn⟩ := drawn_orders L small
  have okS := some_n L
  have okO := some_ok hok.out
  have hqs := qtys_len (someO L)
  obtain ⟨SO, hSO⟩ : ∃ SO, someO L = SO := ⟨_, rfl⟩
  have HS0 : Hid (∀ W, Below w.heap.size w W → Calls Try.prog 13 #[.slice A n cap] W (GaveS W SO)) := Lib.hid (fun W b => by rw [← hSO]; exact Some_any A n cap L W (Lib.hid (h.out.below b)) hok)
  rw [hSO] at hm l30 okS okO hR hRm hR0 hRn hqs
  replace hSO := Lib.hid hSO
  obtain ⟨S, hS⟩ : ∃ S, qtys SO = S := ⟨_, rfl⟩
  rw [hS] at hm okS hR hRm hR0 hRn hqs
  replace hS := Lib.hid hS
  obtain ⟨ns, hns⟩ : ∃ ns, SO.length = ns := ⟨_, rfl⟩
  rw [hns] at l30 hqs
  have iS : Hid (∀ x ∈ S, I64 x) := Lib.hid (fun x hx => by have := okS x hx; exact ⟨by omega, by omega⟩)
  have okS0 : Hid (∀ x ∈ S, 0 ≤ x ∧ x ≤ 41) := Lib.hid (fun x hx => by have := okS x hx; omega)
  have okO0 := Lib.hid okO
  clear okS okO
  clear hR hRm hR0 hRn
  have HK0 : Hid (∀ W, Below w.heap.size w W → Calls Try.prog 15 #[p.val] W fun e w' => ∃ P : PD, e = .returned P.val ∧ P.Fair ∧ Below W.heap.size W w') := Lib.hid (fun W b => KProd_al p W (Lib.hid (hp.out.below b)))
  clear hp
  have hex : Hid (∀ t, t < ns → ∃ x, SO[t]? = some x) := Lib.hid (fun t ht => or_at (by omega))
  have hend : Hid (topO (SO.take ns) = topO SO) := Lib.hid (by rw [List.take_of_length_le (by omega)])
  obtain ⟨tp1, tp2⟩ := topO_range SO
  obtain ⟨tp, etp⟩ : ∃ tp, topO SO = tp := ⟨_, rfl⟩
  rw [hns] at tp2
  rw [etp] at tp1 tp2 hend
  replace etp := Lib.hid etp
  obtain ⟨code, A1, n1, c1, tick, low, high, wide, rule, top, least, part, A2, n2, c2, Q, R⟩ := p
  replace HK0 : Hid (∀ W, Below w.heap.size w W → Calls Try.prog 15 #[.agg #[.string (str code), .slice A1 n1 c1, .int .i64 tick, .int .i64 low, .int .i64 high, .int .i64 wide, .int .i64 rule, .int .i64 top, .int .i64 least, .int .i64 part, .slice A2 n2 c2]] W fun e w' => ∃ P : PD, e = .returned P.val ∧ P.Fair ∧ Below W.heap.size W w') := HK0
  show Calls Try.prog 5 #[.agg #[.string (str code), .slice A1 n1 c1, .int .i64 tick, .int .i64 low, .int .i64 high, .int .i64 wide, .int .i64 rule, .int .i64 top, .int .i64 least, .int .i64 part, .slice A2 n2 c2], .slice A n cap, .int .i64 small] w _
  obtain ⟨W0, eW0⟩ : ∃ W0, w.alloc (.cells #[.string (str code), .slice A1 n1 c1, .int .i64 tick, .int .i64 low, .int .i64 high, .int .i64 wide, .int .i64 rule, .int .i64 top, .int .i64 least, .int .i64 part, .slice A2 n2 c2] 28) = W0 := ⟨_, rfl⟩
  obtain ⟨pb, epb⟩ : ∃ pb, w.heap.size = pb := ⟨_, rfl⟩
  have hblk0 : Hid (W0.heap[pb]? = some (.cells #[.string (str code), .slice A1 n1 c1, .int .i64 tick, .int .i64 low, .int .i64 high, .int .i64 wide, .int .i64 rule, .int .i64 top, .int .i64 least, .int .i64 part, .slice A2 n2 c2] 28 (0, 0))) := Lib.hid (by rw [← eW0, ← epb]; exact heap_alloc_new w _)
  have hB0 : Hid (Below w.heap.size w W0) := Lib.hid (by rw [← eW0]; exact (Below.refl _ w).alloc (Nat.le_refl _) _)
  replace eW0 := Lib.hid eW0
  replace epb := Lib.hid epb
  have hpb : Hid (pb < W0.heap.size) := Lib.hid (Array.getElem?_eq_some_iff.1 hblk0.out).1
  obtain ⟨B, eB⟩ : ∃ B, W0.heap.size = B := ⟨_, rfl⟩
  rw [eB] at hpb
  have hwB : Hid (w.heap.size ≤ B) := Lib.hid (by rw [← eB]; exact hB0.out.size)
  replace eB := Lib.hid eB
  go_enter Try.func5, Try.ntmps5
  go_wp2_with fail
  rw [eW0.out, epb.out]
  clear eW0
  refine (HS0.out _ hB0.out).mono ?_
  rintro e w1 ⟨v, u, rfl, oo, rr, ne, bb⟩
  clear HS0
  rw [eB.out] at oo rr
  obtain ⟨Ao, co, rfl, h2, l2, -, -, -⟩ := oo.slice
  obtain ⟨Aq, cq, rfl, h3, -, l3, -, -⟩ := rr.slice (by rw [hS.out]; exact iS.out)
  rw [hns] at h2 l2 oo ne ⊢
  rw [hS.out, hqs] at h3 l3
  rw [qtys_len, hns] at rr ne ⊢
  replace h2 := Lib.hid h2
  replace h3 := Lib.hid h3
  have lo : Hid (∀ q, (Value.slice Ao ns co).ownBlock = some q → B ≤ q ∧ q < w1.heap.size) := Lib.hid (fun q e => oo.lt q e)
  have oo1 := Lib.hid oo
  have hq0 : Hid (∀ q, (Value.slice Aq ns cq).ownBlock = some q → B ≤ q ∧ q < w1.heap.size) := Lib.hid (fun q e => rr.lt e)
  replace ne := Lib.hid ne
  have hB1 := Lib.hid (below_up hB0.out bb)
  have hblk1 := Lib.hid (pd_block (p := ⟨code, A1, n1, c1, tick, low, high, wide, rule, top, least, part, A2, n2, c2, Q, R⟩) hblk0.out bb)
  clear bb oo rr hblk0 hB0
  go_wp2_with fail
  go_loop [9, 10, 11] (fun u tv i => ∃ (t : Nat) (y z : Int), i = .int .i64 t ∧ u = .int .i64 y ∧ tv = .int .i64 z ∧ t ≤ ns ∧ Hid (sumL (S.take t) = y) ∧ 0 ≤ y ∧ y ≤ 41 * (t : Int) ∧ Hid (topO (SO.take t) = z) ∧ -1 ≤ z ∧ z ≤ ns) (fun _ _ i => ns - (intOf i).toNat)
  case atStart => exact ⟨0, 0, -1, rfl, rfl, rfl, by omega, Lib.hid (by rw [List.take_zero]; rfl), by omega, by omega, Lib.hid (by rw [List.take_zero]; exact topO_nil), by omega, by omega⟩
  case round =>
    obtain ⟨t, y, z, rfl, rfl, rfl, ht, hy, y0, y1, hz, z1, z2⟩ := hrel
    by_cases hlt : t < ns
    · have d1 : decide ((t : Int) < (ns : Int)) = true := decide_eq_true (by omega)
      have d3 : (t : Int) < (ns : Int) := by omega
      obtain ⟨b1, o1', rfl, q1'⟩ := h3.out.2.2 (by omega)
      have c1' := q1' t hlt
      have hst := sumL_take S t (by omega)
      have hx0 := okS0.out _ (getD_mem (show t < S.length by omega))
      generalize S.getD t 0 = xq at *
      rw [hy.out] at hst
      replace hst := Lib.hid hst
      obtain ⟨x, hx⟩ := hex.out t hlt
      obtain ⟨b, off, rfl, -, -, -, -, c4⟩ := h2.out.atO hx
      have htn := topO_step hx
      rw [hz.out] at htn
      obtain ⟨xi, xs, xp, xn, xt⟩ := x
      simp only at c4 htn
      replace hx := Lib.hid hx
      replace htn := Lib.hid htn
      clear q1'
      cases xt with
      | true =>
        by_cases h0 : z < 0
        · have d2 : decide (z < 0) = true := decide_eq_true h0
          have e : topO (SO.take (t + 1)) = (t : Int) := by rw [htn.out, if_pos h0, if_pos rfl]
          replace e := Lib.hid e
          go_wp2_with fail
          go_round
          case rel => exact ⟨t + 1, y + xq, t, by go_num, by go_num, rfl, by omega, hst, by omega, by omega, e, by omega, by omega⟩
          case measure => simp [intOf]; omega
        · have d2 : decide (z < 0) = false := decide_eq_false h0
          have e : topO (SO.take (t + 1)) = z := by rw [htn.out, if_neg h0]
          replace e := Lib.hid e
          go_wp2_with fail
          go_round
          case rel => exact ⟨t + 1, y + xq, z, by go_num, by go_num, rfl, by omega, hst, by omega, by omega, e, by omega, by omega⟩
          case measure => simp [intOf]; omega
      | false =>
        have e : topO (SO.take (t + 1)) = z := by
          rw [htn.out]
          by_cases h0 : z < 0
          · rw [if_pos h0, if_neg (by decide)]; omega
          · rw [if_neg h0]
        replace e := Lib.hid e
        go_wp2_with fail
        go_round
        case rel => exact ⟨t + 1, y + xq, z, by go_num, by go_num, rfl, by omega, hst, by omega, by omega, e, by omega, by omega⟩
        case measure => simp [intOf]; omega
    · obtain rfl : ns = t := by omega
      have d1 : decide ((ns : Int) < (ns : Int)) = false := by simp
      have e9 : y = (m : Int) := by rw [← hy.out, List.take_of_length_le (by omega)]; exact hm
      have e8 : z = tp := by rw [← hz.out]; exact hend.out
      subst e9
      subst e8
      clear hy hz ht hlt y0 y1 z1 z2 hm
      have HW := Within_any small m w1 (by omega) s1 s2
      rw [hk] at HW
      replace HW := Lib.hid HW
      clear h2
      go_wp2_with fail
      refine HW.out.mono ?_
      rintro e w1 ⟨rfl, rfl⟩
      clear HW
      have HK := Lib.hid (HK0.out _ hB1.out)
      obtain ⟨k0, k1, k2, k3, k4, k5, k6, k7, k8, k9, k10⟩ := row11 hblk1.out
      clear HK0
      go_wp2_with fail
      refine HK.out.mono ?_
      rintro e w2 ⟨P, rfl, pf, b2⟩
      clear HK k0 k1 k2 k3 k4 k5 k6 k7 k8 k9 k10
      have hB2 := below_up hB1.out b2
      have hblk2 := Lib.hid (pd_block hblk1.out b2)
      have oo2 := oo1.out.below b2
      have h3' := h3.out.below b2
      have lo2 : ∀ q, (Value.slice Ao ns co).ownBlock = some q → B ≤ q ∧ q < w2.heap.size := fun q e => ⟨(lo.out q e).1, Nat.lt_of_lt_of_le (lo.out q e).2 b2.size⟩
      clear hB1 hblk1 h3 oo1 lo b2
      obtain ⟨codes, A1s, n1s, c1s, ticks, lows, highs, wides, rules, tops, leasts, parts, A2s, n2s, c2s, Qs, Rs⟩ := P
      rw [show PD.val ⟨codes, A1s, n1s, c1s, ticks, lows, highs, wides, rules, tops, leasts, parts, A2s, n2s, c2s, Qs, Rs⟩ = .agg #[.string (str codes), .slice A1s n1s c1s, .int .i64 ticks, .int .i64 lows, .int .i64 highs, .int .i64 wides, .int .i64 rules, .int .i64 tops, .int .i64 leasts, .int .i64 parts, .slice A2s n2s c2s] from rfl]
      obtain ⟨⟨ca1, ca2, ca3, ca4⟩, fr1, fr2, ft, fm, fp1, fp2⟩ := pf
      simp only at ca1 ca2 ca3 ca4 fr1 fr2 ft fm fp1 fp2
      have can := Lib.hid (PD.can_of (p := ⟨codes, A1s, n1s, c1s, ticks, lows, highs, wides, rules, tops, leasts, parts, A2s, n2s, c2s, Qs, Rs⟩) ca1 ca2 ca3 ca4)
      obtain ⟨ru1, ru2⟩ := ca1
      obtain ⟨to1, to2⟩ := ca2
      obtain ⟨le1, le2⟩ := ca3
      obtain ⟨pa1, pa2⟩ := ca4
      have one := Lib.hid (show (#[.string (str codes), .slice A1s n1s c1s, .int .i64 ticks, .int .i64 lows, .int .i64 highs, .int .i64 wides, .int .i64 rules, .int .i64 tops, .int .i64 leasts, .int .i64 parts, .slice A2s n2s c2s] : Array Value).all (·.oneCell') = true from by simp [Value.oneCell'])
      obtain ⟨w3, ew3⟩ : ∃ W, w2.setRow pb #[.string (str codes), .slice A1s n1s c1s, .int .i64 ticks, .int .i64 lows, .int .i64 highs, .int .i64 wides, .int .i64 rules, .int .i64 tops, .int .i64 leasts, .int .i64 parts, .slice A2s n2s c2s] = W := ⟨_, rfl⟩
      have hblk3 : w3.heap[pb]? = some (.cells #[.string (str codes), .slice A1s n1s c1s, .int .i64 ticks, .int .i64 lows, .int .i64 highs, .int .i64 wides, .int .i64 rules, .int .i64 tops, .int .i64 leasts, .int .i64 parts, .slice A2s n2s c2s] 28 (0, 0)) := by rw [← ew3]; exact setRow_heap w2 pb _ #[.string (str codes), .slice A1s n1s c1s, .int .i64 ticks, .int .i64 lows, .int .i64 highs, .int .i64 wides, .int .i64 rules, .int .i64 tops, .int .i64 leasts, .int .i64 parts, .slice A2s n2s c2s] 28 _ hblk2.out
      have onl := setRow_only w2 pb #[.string (str codes), .slice A1s n1s c1s, .int .i64 ticks, .int .i64 lows, .int .i64 highs, .int .i64 wides, .int .i64 rules, .int .i64 tops, .int .i64 leasts, .int .i64 parts, .slice A2s n2s c2s]
      rw [ew3] at onl
      have hpbB := hpb.out
      have oo3 := Lib.hid (oo2.only onl (fun q e e2 => by have := (lo2 q e).1; omega))
      have lo3 : Hid (∀ q, (Value.slice Ao ns co).ownBlock = some q → B ≤ q ∧ q < w3.heap.size) := Lib.hid (fun q e => ⟨(lo2 q e).1, Nat.lt_of_lt_of_le (lo2 q e).2 onl.size⟩)
      have hwp : w.heap.size = pb := epb.out
      have hB3 := Lib.hid (hB2.trans (onl.below (B := w.heap.size) hB2.size (fun q hq e => by omega)))
      have h3 := Lib.hid (h3'.only onl (fun ad e e2 => by
        have a : (Value.slice Aq ns cq).ownBlock = some pb := by rw [e, own_at, e2]
        have := (hq0.out pb a).1
        omega))
      have lq3 : Hid (∀ ad, Aq = some ad → ¬ (Value.slice Ao ns co).ownBlock = some ad.block) := Lib.hid (fun ad e e2 => ne.out _ e2 (by rw [e, own_at]))
      have K3 := hblk3
      replace hblk3 := Lib.hid hblk3
      replace ew3 := Lib.hid ew3
      clear onl oo2 lo2 hB2 h3' hwp hpbB hq0
      obtain ⟨a0, a1, a2, a3, a4, a5, a6, a7, a8, a9, a10⟩ := row11 (setRow_heap w2 pb _ #[.string (str codes), .slice A1s n1s c1s, .int .i64 ticks, .int .i64 lows, .int .i64 highs, .int .i64 wides, .int .i64 rules, .int .i64 tops, .int .i64 leasts, .int .i64 parts, .slice A2s n2s c2s] 28 _ hblk2.out)
      go_wp2_with (refine wpList_store_row rfl 28 (.tmp 3) (.tmp 48) rfl pb #[.string (str codes), .slice A1s n1s c1s, .int .i64 ticks, .int .i64 lows, .int .i64 highs, .int .i64 wides, .int .i64 rules, .int .i64 tops, .int .i64 leasts, .int .i64 parts, .slice A2s n2s c2s] rfl rfl 28 #[.string (str code), .slice A1 n1 c1, .int .i64 tick, .int .i64 low, .int .i64 high, .int .i64 wide, .int .i64 rule, .int .i64 top, .int .i64 least, .int .i64 part, .slice A2 n2 c2] hblk2.out rfl rfl one.out ?_)
      rw [ew3.out]
      clear ew3 one hblk2 a0 a1 a2 a3 a4 a5 a6 a7 a8 a9 a10
      obtain ⟨X, nx, hX, hnx, fx, iX⟩ := alloc_letters rules tops leasts parts SO (k : Int)
      have hX1 : Hid (rules = 1 → shareL S (k : Int) = X) := Lib.hid (fun e => by rw [← hX, alloc_first e, hS.out])
      have hX2 : Hid (rules = 2 → topL S z tops leasts (k : Int) = X) := Lib.hid (fun e => by rw [← hX, alloc_share e, hS.out, etp.out])
      have hX3 : Hid (rules = 3 → splitL S parts leasts (k : Int) = X) := Lib.hid (fun e => by rw [← hX, alloc_mixed e, hS.out])
      have CA : Hid (∀ (W : World) (M : List Or), HV fO W Ao ns M → OkO M → qtys M = S → topO M = z → Calls Try.prog 9 #[.agg #[.string (str codes), .slice A1s n1s c1s, .int .i64 ticks, .int .i64 lows, .int .i64 highs, .int .i64 wides, .int .i64 rules, .int .i64 tops, .int .i64 leasts, .int .i64 parts, .slice A2s n2s c2s], .slice Ao ns co, .int .i64 (k : Int)] W (Gave W X)) := Lib.hid (fun W M hM hOk e1 e2 => by
        have := AShare_any ⟨codes, A1s, n1s, c1s, ticks, lows, highs, wides, rules, tops, leasts, parts, A2s, n2s, c2s, Qs, Rs⟩ Ao ns co M (k : Int) W (by omega) (by omega) (by omega) can (Lib.hid hM) (Lib.hid hOk)
        rw [show allocL (PD.rule ⟨codes, A1s, n1s, c1s, ticks, lows, highs, wides, rules, tops, leasts, parts, A2s, n2s, c2s, Qs, Rs⟩) (PD.top ⟨codes, A1s, n1s, c1s, ticks, lows, highs, wides, rules, tops, leasts, parts, A2s, n2s, c2s, Qs, Rs⟩) (PD.least ⟨codes, A1s, n1s, c1s, ticks, lows, highs, wides, rules, tops, leasts, parts, A2s, n2s, c2s, Qs, Rs⟩) (PD.part ⟨codes, A1s, n1s, c1s, ticks, lows, highs, wides, rules, tops, leasts, parts, A2s, n2s, c2s, Qs, Rs⟩) M (k : Int) = X from by rw [← hX]; exact alloc_same rules tops leasts parts (k : Int) (e1.trans hS.out.symm) (e2.trans etp.out.symm)] at this
        exact this)
      replace hX := Lib.hid hX
      have hV3 : HV fO w3 Ao ns SO := by
        obtain ⟨A', c', e', hh, -, -, -, -⟩ := oo3.out.slice
        injection e' with e1 e2 e3
        rw [e1, ← hns]; exact hh
      have HS := Lib.hid (CA.out w3 SO hV3 okO0.out hS.out etp.out)
      clear hV3 K3
      refine HS.out.mono ?_
      rintro e w4 ⟨v, rfl, rr, bb⟩
      clear HS
      obtain ⟨Ax, cx, rfl, hx, -, -, -, atx⟩ := rr.slice iX.out
      rw [hnx] at hx ⊢
      have hblk4 := Lib.hid (pd_block (p := ⟨codes, A1s, n1s, c1s, ticks, lows, highs, wides, rules, tops, leasts, parts, A2s, n2s, c2s, Qs, Rs⟩) hblk3.out bb)
      have oo4 := Lib.hid (oo3.out.below bb)
      have h4 := Lib.hid (h3.out.below bb)
      have hB4 := Lib.hid (below_up hB3.out bb)
      have ox : Hid (∀ ad, Ax = some ad → ¬ (Value.slice Ao ns co).ownBlock = some ad.block) := Lib.hid (fun ad e e2 => by
        have a := (atx ad e).1
        have c := (lo3.out _ e2).2
        omega)
      have lo4 : Hid (∀ q, (Value.slice Ao ns co).ownBlock = some q → B ≤ q) := Lib.hid (fun q e => (lo3.out q e).1)
      have szB : Hid (w.heap.size ≤ w4.heap.size) := Lib.hid hB4.out.size
      replace hx := Lib.hid hx
      clear rr bb atx hblk3 oo3 h3 hB3 lo3
      go_wp2_with fail
      go_loopw [14] (fun i wr => ∃ t : Nat, i = .int .i64 t ∧ t ≤ ns ∧ Hid (Own fO 23 wr B (.slice Ao ns co) (anewL SO t)) ∧ Hid (Only (fun q => (Value.slice Ao ns co).ownBlock = some q) w4 wr)) (fun i _ => ns - (intOf i).toNat)
      case atStart => exact ⟨0, rfl, by omega, by rw [anew_zero]; exact oo4, Lib.hid (Only.refl _ _)⟩
      case round =>
        clear oo4
        obtain ⟨t, rfl, ht, hO, hN⟩ := hrel
        by_cases hlt : t < ns
        · have d1 : decide ((t : Int) < (ns : Int)) = true := decide_eq_true (by omega)
          have d3 : (t : Int) < (ns : Int) := by omega
          have hml := anew_len SO t
          rw [hns] at hml
          obtain ⟨g, cap', cur, ev, -, hg, hgh, -, -, hcs, htk⟩ := hO.out.open' (by omega)
          rw [hml] at ev htk
          injection ev with ev1 ev2 ev3
          subst ev1; subst ev3
          obtain ⟨x, hx'⟩ := hex.out t hlt
          have h3' := hO.out.anew3 hx'
          have lt5 : ∀ r, r < 5 → t * 5 + r < co * 5 := fun r hr => by omega
          have cc : ∀ (W : World) (cs : Array Value), W.heap[g]? = some (.cells cs 23 (0, 0)) → cs.size = co * 5 → ∀ r, r < 5 → ∃ u, W.cell? ⟨g, t * 5 + r, none⟩ = some u := fun W cs hW hs r hr => by
            rw [Lib.cell_of_heap hW]
            exact ⟨_, Array.getElem?_eq_getElem (by rw [hs]; exact lt5 r hr)⟩
          have hcs' : cur.size = co * 5 := hcs
          have hg1 := heap_setCell_same wr g (t * 5) cur _ (.int .i64 (t : Int)) hgh
          have hg2 := heap_setCell_same _ g (t * 5 + 2) _ _ (.int .i64 (-5)) hg1
          obtain ⟨u0, e0⟩ := cc wr cur hgh hcs' 0 (by omega)
          rw [Nat.add_zero] at e0
          obtain ⟨u2, e2⟩ := cc _ _ hg1 (by rw [Array.size_setIfInBounds]; exact hcs') 2 (by omega)
          obtain ⟨u1, e1⟩ := cc _ _ hg2 (by rw [Array.size_setIfInBounds, Array.size_setIfInBounds]; exact hcs') 1 (by omega)
          have f0 := Lib.frozen_of_heap hgh (t * 5)
          have f2 := Lib.frozen_of_heap hg1 (t * 5 + 2)
          have f1 := Lib.frozen_of_heap hg2 (t * 5 + 1)
          have hN3 : Hid (Only (fun q => (Value.slice (some ⟨g, 0, none⟩) ns co).ownBlock = some q) w4 (((wr.setCell ⟨g, t * 5, none⟩ (.int .i64 (t : Int))).setCell ⟨g, t * 5 + 2, none⟩ (.int .i64 (-5))).setCell ⟨g, t * 5 + 1, none⟩ (.int .i64 2))) := Lib.hid (((hN.out.step (set_only wr g _ _) (fun j _ e => by rw [e, own_at])).step (set_only _ g _ _) (fun j _ e => by rw [e, own_at])).step (set_only _ g _ _) (fun j _ e => by rw [e, own_at]))
          replace h3' := Lib.hid h3'
          replace hx' := Lib.hid hx'
          clear hgh htk hcs hcs' cc hml hg1 hg2 lt5
          go_wp2_with fail
          go_roundw
          case rel => exact ⟨t + 1, by go_num, by omega, h3', hN3⟩
          case measure => simp [intOf]; omega
        · obtain rfl : ns = t := by omega
          have d1 : decide ((ns : Int) < (ns : Int)) = false := by simp
          have hblk5 : wr.heap[pb]? = some (.cells #[.string (str codes), .slice A1s n1s c1s, .int .i64 ticks, .int .i64 lows, .int .i64 highs, .int .i64 wides, .int .i64 rules, .int .i64 tops, .int .i64 leasts, .int .i64 parts, .slice A2s n2s c2s] 28 (0, 0)) := (hN.out.block pb (Array.getElem?_eq_some_iff.1 hblk4.out).1 (fun e => by have := lo4.out pb e; have := hpb.out; omega)).trans hblk4.out
          have hx5 := Lib.hid (hx.out.only hN.out (fun ad e => ox.out ad e))
          have h5 := Lib.hid (h4.out.only hN.out (fun ad e => lq3.out ad e))
          have hB5 := Lib.hid (hB4.out.trans (hN.out.below szB.out (fun q hq e => by have := lo4.out q e; have := hwB.out; omega)))
          have hV5 : HV fO wr Ao ns (anewL SO ns) := by
            obtain ⟨A', c', e', hh, -, -, -, -⟩ := hO.out.slice
            injection e' with e1 e2 e3
            rw [anew_len, hns] at hh
            rw [e1]; exact hh
          have HS := Lib.hid (CA.out wr (anewL SO ns) hV5 (anew_ok okO0.out (by omega) ns) ((anew_qtys SO ns).trans hS.out) ((anew_top SO ns).trans etp.out))
          obtain ⟨k0, k1, k2, k3, k4, k5, k6, k7, k8, k9, k10⟩ := row11 hblk5
          replace hblk5 := Lib.hid hblk5
          clear hV5 hO hN hblk4 hx h4 hB4 ox lo4 lq3 CA
          go_wp2_with fail
          refine HS.out.mono ?_
          rintro e w6 ⟨v, rfl, rr, bb⟩
          clear HS k0 k1 k2 k3 k4 k5 k6 k7 k8 k9 k10
          obtain ⟨Ay, cy, rfl, hy, -, -, -, -⟩ := rr.slice iX.out
          rw [hnx] at hy ⊢
          replace hy := Lib.hid hy
          obtain ⟨-, -, -, -, -, -, k6, k7, k8, k9, -⟩ := row11 (pd_block (p := ⟨codes, A1s, n1s, c1s, ticks, lows, highs, wides, rules, tops, leasts, parts, A2s, n2s, c2s, Qs, Rs⟩) hblk5.out bb)
          have hx6 := Lib.hid (hx5.out.below bb)
          have h6 := Lib.hid (h5.out.below bb)
          have hB6 := Lib.hid (below_up hB5.out bb)
          clear rr bb hblk5 hx5 h5 hB5
          by_cases h1' : rules = 1
          · have e1 := hX1.out h1'
            subst h1'
            replace e1 := Lib.hid e1
            clear hX1 hX2 hX3
            have HS := FShare_any Aq ns cq S (k : Int) w6 (by omega) (by omega) (by omega) h6
            rw [e1.out] at HS
            replace HS := Lib.hid HS
            go_wp2_with fail
            refine HS.out.mono ?_
            rintro e w7 ⟨v, rfl, rr, bb⟩
            clear HS k6 k7 k8 k9
            obtain ⟨Az, cz, rfl, hz, -, -, -, -⟩ := rr.slice iX.out
            rw [hnx] at hz ⊢
            replace hz := Lib.hid hz
            have hx7 := Lib.hid (hx6.out.below bb)
            have hy7 := Lib.hid (hy.out.below bb)
            have hB7 := Lib.hid (below_up hB6.out bb)
            clear rr bb hx6 hy hB6 h6
            go_wp2_with fail
            refine (Same_yes Ax Az nx cx cz X w7 (by omega) hx7 hz).mono ?_
            rintro e wx ⟨rfl, dd, rfl⟩
            replace hy7 := Lib.hid (hy7.out.drewN dd)
            replace hz := Lib.hid (hz.out.drewN dd)
            replace hB7 := Lib.hid (below_drewN hB7.out dd)
            obtain ⟨w8, hw8⟩ : ∃ x, w7.drewN dd = x := ⟨_, rfl⟩
            rw [hw8] at hy7 hz hB7 ⊢
            clear hw8 hx7
            go_wp2_with fail
            refine (Same_yes Ay Az nx cy cz X w8 (by omega) hy7 hz).mono ?_
            rintro e wx ⟨rfl, dd, rfl⟩
            replace hB7 := Lib.hid (below_drewN hB7.out dd)
            obtain ⟨w9, hw9⟩ : ∃ x, w8.drewN dd = x := ⟨_, rfl⟩
            rw [hw9] at hB7 ⊢
            clear hw9 hy7 hz
            go_wp2_with fail
            refine (Known_any _).mono ?_
            rintro e wz ⟨rfl, bz⟩
            replace hB7 := Lib.hid (below_up hB7.out bz)
            clear bz
            go_wp2_with fail
            go_ret
            exact ⟨rfl, by first | exact hB7.out | (rw [← epb.out]; exact hB7.out)⟩
          have n1' : (rules == 1) = false := beq_eq_false_iff_ne.2 h1'
          have m1' : decide (rules = 1) = false := decide_eq_false h1'
          by_cases h2' : rules = 2
          · have e1 := hX2.out h2'
            subst h2'
            replace e1 := Lib.hid e1
            clear hX1 hX2 hX3
            have HS := PShare_any Aq ns cq S z tops leasts (k : Int) w6 (by omega) (by omega) (by omega) to1 to2 le1 le2 (by omega) (by omega) h6
            rw [e1.out] at HS
            replace HS := Lib.hid HS
            go_wp2_with fail
            refine HS.out.mono ?_
            rintro e w7 ⟨v, rfl, rr, bb⟩
            clear HS k6 k7 k8 k9
            obtain ⟨Az, cz, rfl, hz, -, -, -, -⟩ := rr.slice iX.out
            rw [hnx] at hz ⊢
            replace hz := Lib.hid hz
            have hx7 := Lib.hid (hx6.out.below bb)
            have hy7 := Lib.hid (hy.out.below bb)
            have hB7 := Lib.hid (below_up hB6.out bb)
            clear rr bb hx6 hy hB6 h6
            go_wp2_with fail
            refine (Same_yes Ax Az nx cx cz X w7 (by omega) hx7 hz).mono ?_
            rintro e wx ⟨rfl, dd, rfl⟩
            replace hy7 := Lib.hid (hy7.out.drewN dd)
            replace hz := Lib.hid (hz.out.drewN dd)
            replace hB7 := Lib.hid (below_drewN hB7.out dd)
            obtain ⟨w8, hw8⟩ : ∃ x, w7.drewN dd = x := ⟨_, rfl⟩
            rw [hw8] at hy7 hz hB7 ⊢
            clear hw8 hx7
            go_wp2_with fail
            refine (Same_yes Ay Az nx cy cz X w8 (by omega) hy7 hz).mono ?_
            rintro e wx ⟨rfl, dd, rfl⟩
            replace hB7 := Lib.hid (below_drewN hB7.out dd)
            obtain ⟨w9, hw9⟩ : ∃ x, w8.drewN dd = x := ⟨_, rfl⟩
            rw [hw9] at hB7 ⊢
            clear hw9 hy7 hz
            go_wp2_with fail
            refine (Known_any _).mono ?_
            rintro e wz ⟨rfl, bz⟩
            replace hB7 := Lib.hid (below_up hB7.out bz)
            clear bz
            go_wp2_with fail
            go_ret
            exact ⟨rfl, by first | exact hB7.out | (rw [← epb.out]; exact hB7.out)⟩
          have n2' : (rules == 2) = false := beq_eq_false_iff_ne.2 h2'
          have m2' : decide (rules = 2) = false := decide_eq_false h2'
          have h3' : rules = 3 := by omega
          have e1 := hX3.out h3'
          subst h3'
          replace e1 := Lib.hid e1
          clear hX1 hX2 hX3
          have HS := SShare_any Aq ns cq S parts leasts (k : Int) w6 (by omega) l3 pa1 pa2 le1 le2 (by omega) (by omega) h6
          rw [e1.out] at HS
          replace HS := Lib.hid HS
          go_wp2_with fail
          refine HS.out.mono ?_
          rintro e w7 ⟨v, rfl, rr, bb⟩
          clear HS k6 k7 k8 k9
          obtain ⟨Az, cz, rfl, hz, -, -, -, -⟩ := rr.slice iX.out
          rw [hnx] at hz ⊢
          replace hz := Lib.hid hz
          have hx7 := Lib.hid (hx6.out.below bb)
          have hy7 := Lib.hid (hy.out.below bb)
          have hB7 := Lib.hid (below_up hB6.out bb)
          clear rr bb hx6 hy hB6 h6
          go_wp2_with fail
          refine (Same_yes Ax Az nx cx cz X w7 (by omega) hx7 hz).mono ?_
          rintro e wx ⟨rfl, dd, rfl⟩
          replace hy7 := Lib.hid (hy7.out.drewN dd)
          replace hz := Lib.hid (hz.out.drewN dd)
          replace hB7 := Lib.hid (below_drewN hB7.out dd)
          obtain ⟨w8, hw8⟩ : ∃ x, w7.drewN dd = x := ⟨_, rfl⟩
          rw [hw8] at hy7 hz hB7 ⊢
          clear hw8 hx7
          go_wp2_with fail
          refine (Same_yes Ay Az nx cy cz X w8 (by omega) hy7 hz).mono ?_
          rintro e wx ⟨rfl, dd, rfl⟩
          replace hB7 := Lib.hid (below_drewN hB7.out dd)
          obtain ⟨w9, hw9⟩ : ∃ x, w8.drewN dd = x := ⟨_, rfl⟩
          rw [hw9] at hB7 ⊢
          clear hw9 hy7 hz
          go_wp2_with fail
          refine (Known_any _).mono ?_
          rintro e wz ⟨rfl, bz⟩
          replace hB7 := Lib.hid (below_up hB7.out bz)
          clear bz
          go_wp2_with fail
          go_ret
          exact ⟨rfl, by first | exact hB7.out | (rw [← epb.out]; exact hB7.out)⟩
end Go.Proofs.Ytabogoonbapjiaa
