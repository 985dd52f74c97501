/-
  The walk of LevelRooms.
-/
import Derived.Test.YtcfmnmknbebfnaaOpenAsk
import Derived.Test.YtcfmnmknbebfnaaLvKnown
import Derived.Test.YtcfmnmknbebfnaaLvPlays
namespace Go.Proofs.Ytcfmnmknbebfnaa
open Go.RowKit
set_option linter.unusedVariables false
set_option linter.unusedSimpArgs false

theorem getO_used {st : St} (h : st.Ok) {s : Nat} {b : Bool} (hb : st.U[s]? = some b) : (getO st (s : Int)).2 = b := by
  unfold getO
  cases hf : findQ (s : Int) st.Q 0 with
  | none =>
    cases b with
    | false => rfl
    | true =>
      obtain ⟨q, l, e, h1, h2, h3⟩ := (h.use s).1 hb
      exact absurd (by rw [h3]) (findQ_none hf q l h1 e h2)
  | some t =>
    obtain ⟨q, A, e, C⟩ := t
    obtain ⟨j, _, h1, h2⟩ := findQ_some hf
    have := (h.use e.s).2 ⟨j, _, e, h1, by simp, rfl⟩
    rw [show e.s = s by omega, hb] at this
    injection this with this
    exact this.symm
theorem take_full {st : St} (h : st.Ok) {s : Nat} (hb : st.U[s]? = some true) : ∃ q A e C, findQ (s : Int) st.Q 0 = some (q, A, e, C) ∧ e.s = s ∧ 1 ≤ e.n ∧ e.n ≤ 1000000 ∧ getO st (s : Int) = (e, true) ∧ takeO st (s : Int) e.n = (0, st.gone q e.s (A ++ C)) := by
  cases hf : findQ (s : Int) st.Q 0 with
  | none =>
    obtain ⟨q, l, e, h1, h2, h3⟩ := (h.use s).1 hb
    exact absurd (by rw [h3]) (findQ_none hf q l h1 e h2)
  | some t =>
    obtain ⟨q, A, e, C⟩ := t
    obtain ⟨j, _, h1, h2⟩ := findQ_some hf
    obtain ⟨f1, f2, _⟩ := h.fit _ _ e h1 (by simp)
    refine ⟨q, A, e, C, rfl, by omega, f1, f2, by unfold getO; rw [hf], ?_⟩
    unfold takeO
    rw [hf]
    simp only
    rw [if_neg (by omega), if_pos (by omega)]
theorem pushO_two {st : St} (h2 : st.Q.length = 2) {q i n : Int} {t : Bool} (h0 : 0 ≤ q) (h1 : q < 2) (n1 : 1 ≤ n) (n2 : n ≤ 1000000) :
    (lowF st.U 0 = -1 → pushO st q i n t = (0, 13, st)) ∧ (∀ j : Nat, lowF st.U 0 = (j : Int) → (pushO st q i n t).1 = (j : Int) ∧ (pushO st q i n t).2.1 = 0 ∧ (pushO st q i n t).2.2.U = st.U.set j true) := by
  unfold pushO
  rw [h2]
  rw [if_neg (by omega), if_neg (by omega)]
  refine ⟨fun h => if_pos h, fun j hj => ?_⟩
  rw [if_neg (by omega)]
  refine ⟨hj, rfl, ?_⟩
  show st.U.set (lowF st.U 0).toNat true = _
  rw [hj, Int.toNat_natCast]
theorem count_both (U : List Bool) : U.count true + U.count false = U.length := by
  induction U with
  | nil => rfl
  | cons b U ih => cases b <;> simp [List.count_cons] <;> omega
theorem two_count {st : St} (h : st.Ok) (h2 : st.Q.length = 2) : (listO st 0).length + (listO st 1).length = st.U.count true := by
  have hs := h.sum
  obtain ⟨U, Q⟩ := st
  match Q, h2 with
  | [a, b], _ =>
    simp only [List.map_cons, List.map_nil, List.sum_cons, List.sum_nil] at hs
    show a.length + b.length = U.count true
    omega
/-- The arena, and the law's own marks of what is used. -/
structure Rm (B c : Nat) (F : Nat → Prop) (ub R : Nat) (st : St) (w wx : World) : Prop where
  ar : AR B c F st wx
  two : st.Q.length = 2
  len : st.U.length = R
  mks : ∃ cur : Array Value, wx.heap[ub]? = some (.cells cur 4 (0, 0)) ∧ cur.toList = st.U.map Value.bool
  bel : Below B w wx
  bsz : B ≤ wx.heap.size
  ubB : B ≤ ub
theorem Rm.below {B c : Nat} {F : Nat → Prop} {ub R : Nat} {st : St} {w wx w' : World} (h : Rm B c F ub R st w wx) (hb : Below wx.heap.size wx w') : Rm B c F ub R st w w' := by
  obtain ⟨cur, h1, h2⟩ := h.mks
  exact ⟨h.ar.below hb, h.two, h.len, ⟨cur, (hb.block ub (Array.getElem?_eq_some_iff.1 h1).1).trans h1, h2⟩, h.bel.trans (hb.mono h.bsz), Nat.le_trans h.bsz hb.size, h.ubB⟩
theorem Rm.cell {B c : Nat} {F : Nat → Prop} {ub R : Nat} {st : St} {w wx : World} (h : Rm B c F ub R st w wx) {j : Nat} {b : Bool} (hb : st.U[j]? = some b) : wx.cell? ⟨ub, j, none⟩ = some (.bool b) := by
  obtain ⟨cur, h1, h2⟩ := h.mks
  rw [Lib.cell_of_heap h1, ← Array.getElem?_toList, h2, List.getElem?_map, hb]; rfl
/-- Behind a call that changed one slot's mark: what storing it needs, and what it gives. -/
theorem Rm.step {B c : Nat} {F : Nat → Prop} {ub R : Nat} {st stN : St} {w wx w' : World} (h : Rm B c F ub R st w wx) (a : AR B c F stN w') (o : Only F wx w') (hq : stN.Q.length = 2) (hF : ∀ k, F k → k < ub) :
    (∀ {j : Nat} {b : Bool}, st.U[j]? = some b → w'.cell? ⟨ub, j, none⟩ = some (.bool b) ∧ w'.frozen? ⟨ub, j, none⟩ = false) ∧
    (∀ {j : Nat} {b : Bool}, st.U[j]? = some b → ∀ b' : Bool, stN.U = st.U.set j b' → Rm B c F ub R stN w (w'.setCell ⟨ub, j, none⟩ (.bool b'))) := by
  obtain ⟨cur, h1, h2⟩ := h.mks
  have hu : w'.heap[ub]? = some (.cells cur 4 (0, 0)) := (o.block ub (Array.getElem?_eq_some_iff.1 h1).1 (fun e => by have := hF ub e; omega)).trans h1
  have hB' : Below B wx w' := o.below h.bsz (fun k hk e => by have := (h.ar.lt e).1; omega)
  refine ⟨fun {j b} hb => ⟨?_, Lib.frozen_of_heap hu _⟩, fun {j b} hb b' hU => ?_⟩
  · rw [Lib.cell_of_heap hu, ← Array.getElem?_toList, h2, List.getElem?_map, hb]; rfl
  · refine ⟨a.only (set_only w' ub j _) (fun k hk e => by have := hF k hk; omega), hq, by rw [hU, List.length_set]; exact h.len, ⟨_, heap_setCell_same w' ub j cur _ (.bool b') hu, ?_⟩, (h.bel.trans hB').setCell (p := ⟨ub, j, none⟩) h.ubB _, ?_, h.ubB⟩
    · rw [Array.toList_setIfInBounds, h2, hU, List.map_set]
    · have := h.bsz; have := o.size
      rw [show (w'.setCell ⟨ub, j, none⟩ (.bool b')).heap.size = w'.heap.size by simp]; omega
theorem Rm.same {B c : Nat} {F : Nat → Prop} {ub R : Nat} {st : St} {w wx w' : World} (h : Rm B c F ub R st w wx) (a : AR B c F st w') (o : Only F wx w') (hF : ∀ k, F k → k < ub) : Rm B c F ub R st w w' := by
  obtain ⟨cur, h1, h2⟩ := h.mks
  exact ⟨a, h.two, h.len, ⟨cur, (o.block ub (Array.getElem?_eq_some_iff.1 h1).1 (fun e => by have := hF ub e; omega)).trans h1, h2⟩, h.bel.trans (o.below h.bsz (fun k hk e => by have := (h.ar.lt e).1; omega)), Nat.le_trans h.bsz o.size, h.ubB⟩
set_option maxRecDepth 100000 in
set_option maxHeartbeats 8000000 in
theorem Rooms_walk (room : Int) (A : Option Addr) (n cap : Nat) (L : List Ask) (w : World) (hr : I64 room) (hA : Hid (HK w A n L)) (hAt : Hid (∀ ad, A = some ad → ad.block < w.heap.size)) (hO : Hid (OkK L)) (p1 : n ≤ cap) (p2 : cap ≤ 9223372036854775807) :
    Calls Try.prog 6 #[.int .i64 room, .slice A n cap] w fun e w' => e = .returned (.bool true) ∧ Below w.heap.size w w' := by
  obtain ⟨i0, hi0, hz0, hz1, hz2⟩ := info_parts info_bool
  have HW := Within_any room 20 w (by omega) hr.1 hr.2
  have hk := withinN_le room 20
  obtain ⟨k, ek⟩ : ∃ k, withinN room 20 = k := ⟨_, rfl⟩
  rw [ek] at HW hk
  replace HW := Lib.hid HW
  obtain ⟨R, eR⟩ : ∃ R, 1 + k = R := ⟨_, rfl⟩
  have eRi : Hid (1 + (k : Int) = (R : Int)) := Lib.hid (by omega)
  have hR : R ≤ 21 := by omega
  have hR1 : 1 ≤ R := by omega
  have HO1 := fun (B c : Nat) (F : Nat → Prop) (W : World) (h : AR B c F (newS R) W) => Open_any B c F (newS R) W (Lib.hid h) (by show 0 ≤ 1000000; omega)
  rw [show (((newS R).Q.length : Nat) : Int) = 0 from rfl] at HO1
  have HO2 := fun (B c : Nat) (F : Nat → Prop) (W : World) (h : AR B c F (newS R).opened W) => Open_any B c F (newS R).opened W (Lib.hid h) (by show 1 ≤ 1000000; omega)
  rw [show (((newS R).opened.Q.length : Nat) : Int) = 1 from rfl] at HO2
  have HWk := Lib.hid (fun (s : Int) (hs : I64 s) (W : World) => by
    have := Within_any s k W (by omega) hs.1 hs.2
    rwa [show (k : Int) = (R : Int) - 1 by omega] at this)
  have hkR : ∀ s, withinN s k < R := fun s => by have := withinN_le s k; omega
  replace hkR := Lib.hid hkR
  obtain ⟨B, eB⟩ : ∃ B, w.heap.size = B := ⟨_, rfl⟩
  replace HO1 := Lib.hid HO1
  replace HO2 := Lib.hid HO2
  replace eR := Lib.hid eR
  clear ek hr
  go_enter Try.func6, Try.ntmps6
  go_wp2_with fail
  refine HW.out.mono ?_
  rintro e w ⟨rfl, rfl⟩
  replace eB := Lib.hid eB
  go_upto_region 2 with (fail)
  rw [eRi.out]
  go_wp2_with fail
  refine (New_yes R w hR1 (by omega)).mono ?_
  rintro e w1 ⟨c, F0, rfl, a1, b1⟩
  rw [eB.out] at a1 b1
  have s1 : B ≤ w1.heap.size := by rw [← eB.out]; exact b1.size
  replace b1 := Lib.hid b1
  replace a1 := Lib.hid a1
  go_wp2_with fail
  refine (HO1.out B c F0 w1 a1.out).mono ?_
  rintro e w2 ⟨F1, rfl, a2, o2, n2⟩
  have b2 := Lib.hid (b1.out.trans (o2.below s1 (fun k hk e => by have := (a1.out.lt e).1; omega)))
  have s2 : B ≤ w2.heap.size := by have := o2.size; omega
  replace a2 := Lib.hid a2
  clear o2 n2 a1 b1 s1 HO1
  go_wp2_with fail
  refine (HO2.out B c F1 w2 a2.out).mono ?_
  rintro e w3 ⟨F, rfl, a3, o3, n3⟩
  have b3 := Lib.hid (b2.out.trans (o3.below s2 (fun k hk e => by have := (a2.out.lt e).1; omega)))
  have s3 : B ≤ w3.heap.size := by have := o3.size; omega
  replace a3 := Lib.hid a3
  clear o3 n3 a2 b2 s2 HO2 HW
  go_wp2_with (at_make; refine wpList_make_full _ (by rfl) (.tmp 43) (.tmp 43) 45 (by rfl) w3.heap.size 4 i0 (.bool false) 1 Try.underlying45 hi0 hz0 hz1 .i64 .i64 _ _ R (by rfl) (by rfl) rfl rfl (by rw [hz2]; omega) (by unfold maxLen; omega) (Nat.le_refl _) ?_)
  intro w4 r4 g4
  obtain ⟨ub, eub⟩ : ∃ u, w3.heap.size = u := ⟨_, rfl⟩
  have hFu : Hid (∀ k, F k → k < ub) := Lib.hid (fun k hk => by have := (a3.out.lt hk).2; omega)
  have b34 : Below w3.heap.size w3 w4 := (Below.refl _ _).grown g4 (Nat.le_refl _) (fun k h => by cases h)
  obtain ⟨st, est⟩ : ∃ st, (newS R).opened.opened = st := ⟨_, rfl⟩
  have hM : Hid (Rm B c F ub R st w w4) := Lib.hid (by
    refine ⟨by rw [← est]; exact a3.out.below b34, by rw [← est]; rfl, by rw [← est]; simp [St.opened, newS], ?_, b3.out.trans (b34.mono s3), Nat.le_trans s3 b34.size, by omega⟩
    rcases r4.2 with ⟨e0, _⟩ | ⟨g, cap', cur, e0, c1, c2, c3, c4, c5, c6⟩
    · cases e0
    · injection e0 with e1 e2 e3
      injection e1 with e1
      injection e1 with e1
      subst e1
      subst e3
      rw [eub] at c2
      refine ⟨cur, c2, ?_⟩
      rw [← est, show (newS R).opened.opened.U = List.replicate R false from rfl, ← made_bools]
      rw [List.take_of_length_le (by rw [Array.length_toList, c5]; omega)] at c6
      simpa using c6)
  rw [eub]
  clear r4 g4 b34 eub a3 b3 s3 est
  go_wp2_with fail
  go_loopw [8] (fun iv wz => ∃ (i : Nat) (st : St), iv = .int .i64 i ∧ i ≤ n ∧ i ≤ 60 ∧ Hid (Rm B c F ub R st w wz)) (fun iv _ => (60 - intOf iv).toNat)
  case atStart => exact ⟨0, st, rfl, by omega, by omega, hM⟩
  case round =>
    clear hM
    obtain ⟨i, st, rfl, hi1, hi2, hM⟩ := hrel
    by_cases hc : i < n ∧ i < 60
    · obtain ⟨c1, c2⟩ := hc
      have d1 : decide ((i : Int) < (n : Int)) = true := decide_eq_true (by omega)
      have d1' : decide (i < n) = true := decide_eq_true c1
      have d2 : decide ((i : Int) < 60) = true := decide_eq_true (by omega)
      obtain ⟨x, hx⟩ : ∃ x, L[i]? = some x := ⟨_, List.getElem?_eq_getElem (by rw [hA.out.1]; exact c1)⟩
      obtain ⟨xk, xq, xs, xi, xn⟩ := hO.out x (List.mem_of_getElem? hx)
      have hKX := hA.out.below (w' := wr) (by rw [eB.out]; exact hM.out.bel)
      obtain ⟨b, off, rfl, e0, e1, e2, e3, e4, e5⟩ := hKX.2 i x hx
      obtain ⟨kq, qq0, qs, qi, qn, qt⟩ := x
      simp only at xk xq xs xi xn e0 e1 e2 e3 e4 e5
      have HK2 := HWk.out qs xs wr
      have hkk := hkR.out qs
      obtain ⟨kk, ekk⟩ : ∃ v, withinN qs k = v := ⟨_, rfl⟩
      rw [ekk] at HK2 hkk
      replace HK2 := Lib.hid HK2
      obtain ⟨bu, hb⟩ : ∃ b, st.U[kk]? = some b := ⟨_, List.getElem?_eq_getElem (by rw [hM.out.len]; exact hkk)⟩
      have u1 : wr.cell? ⟨ub, kk, none⟩ = some (.bool bu) := hM.out.cell hb
      clear hx hKX ekk
      go_wp2_with fail
      refine HK2.out.mono ?_
      rintro e wr ⟨rfl, rfl⟩
      clear HK2
      cases bu with
      | true =>
        cases hmod : (kq.tmod 3 == 0) with
        | true =>
          go_upto_if 75 with (fail)
          clear hmod
          have hb' := hb
          obtain ⟨qq, Aq, e, Cq, hf, es, n1, n2, hgO, htO⟩ := take_full hM.out.ar.ok hb
          have HG := Get_any B c F st (kk : Int) wr (Lib.hid hM.out.ar)
          rw [hgO] at HG
          simp only at HG
          have HT := fun (W : World) (h : AR B c F st W) => Take_any B c F st (kk : Int) e.n W (Lib.hid h) (by have := hM.out.two; omega) ⟨by omega, by omega⟩
          rw [htO] at HT
          simp only at HT
          obtain ⟨em, ei, en, et⟩ := e
          simp only at HT n1 n2 es
          subst es
          rw [show En.val ⟨em, ei, en, et⟩ = .agg #[.int .i64 (em : Int), .int .i64 ei, .int .i64 en, .bool et] from rfl] at HG
          obtain ⟨stN, esN⟩ : ∃ s, st.gone qq em (Aq ++ Cq) = s := ⟨_, rfl⟩
          have hUN : Hid (stN.U = st.U.set em false) := Lib.hid (by rw [← esN]; rfl)
          have hQN : Hid (stN.Q.length = 2) := Lib.hid (by rw [← esN]; show (st.Q.set qq (Aq ++ Cq)).length = 2; rw [List.length_set]; exact hM.out.two)
          rw [esN] at HT
          replace HG := Lib.hid HG
          replace HT := Lib.hid HT
          replace hb := Lib.hid hb
          clear hb' hf hgO htO esN
          go_wp2_with fail
          refine HG.out.mono ?_
          rintro e w5 ⟨rfl, b5⟩
          have M5 := Lib.hid (hM.out.below b5)
          clear b5 HG hM u1
          go_upto_region 12 with (fail)
          obtain ⟨W6, eW6⟩ : ∃ X, w5.alloc (.cells #[.int .i64 (em : Int), .int .i64 ei, .int .i64 en, .bool et] 40) = X := ⟨_, rfl⟩
          obtain ⟨g6, eg6⟩ : ∃ g, w5.heap.size = g := ⟨_, rfl⟩
          rw [eW6, eg6]
          have M6 := Lib.hid (M5.out.below (w' := W6) (by rw [← eW6]; exact (Below.refl _ _).alloc (Nat.le_refl _) _))
          have C6 : W6.heap[g6]? = some (.cells #[.int .i64 (em : Int), .int .i64 ei, .int .i64 en, .bool et] 40 (0, 0)) := by rw [← eW6, ← eg6]; exact heap_alloc_new w5 _
          obtain ⟨⟨y0, y1, y2, y3⟩, -⟩ := row4 C6
          clear eW6 eg6 C6 M5
          go_wp2_with fail
          refine (HT.out W6 M6.out.ar).mono ?_
          rintro e w7 ⟨rfl, a7, o7⟩
          have M7 := Lib.hid (M6.out.step a7 o7 (stN := stN) hQN.out hFu.out)
          obtain ⟨m7, f7⟩ := M7.out.1 hb.out
          have hM := Lib.hid (M7.out.2 hb.out false hUN.out)
          clear HT a7 o7 M6 M7 y0 y1 y2 y3 hb
          go_wp2_with fail
          have hUl := Lib.hid hM.out.len
          have hX : Hid (stN.U.count true = (stN.U.take R).count true) := Lib.hid (by rw [List.take_of_length_le (by rw [hUl.out]; omega)])
          have E1 : Hid ((0 : Nat) = (stN.U.take 0).count true) := Lib.hid (by simp)
          go_wp2_with fail
          go_loopw [15, 16] (fun nv sv wz => ∃ s m : Nat, sv = .int .i64 s ∧ nv = .int .i64 m ∧ s ≤ R ∧ m ≤ s ∧ Hid (m = (stN.U.take s).count true) ∧ Hid (Rm B c F ub R stN w wz)) (fun _ sv _ => (R - intOf sv).toNat)
          case atStart => exact ⟨0, 0, rfl, rfl, by omega, by omega, E1, hM⟩
          case round =>
            clear E1 hM
            rename World => wz
            obtain ⟨s, m, rfl, rfl, hs, hms, hE, hM⟩ := hrel
            by_cases hsl : s < R
            · have ds : decide (s < R) = true := decide_eq_true hsl
              have ds' : decide ((s : Int) < (R : Int)) = true := decide_eq_true (by omega)
              obtain ⟨b, hb⟩ : ∃ b, stN.U[s]? = some b := ⟨_, List.getElem?_eq_getElem (by rw [hUl.out]; exact hsl)⟩
              have HG := Get_any B c F stN (s : Int) wz (Lib.hid hM.out.ar)
              have hg2 := getO_used hM.out.ar.ok hb
              obtain ⟨⟨⟨em, ei, en, et⟩, eb⟩, eg⟩ : ∃ p, getO stN (s : Int) = p := ⟨_, rfl⟩
              rw [eg] at HG hg2
              simp only at HG hg2
              subst hg2
              rw [show En.val ⟨em, ei, en, et⟩ = .agg #[.int .i64 (em : Int), .int .i64 ei, .int .i64 en, .bool et] from rfl] at HG
              replace HG := Lib.hid HG
              have hct := count_take hb true
              replace hb := Lib.hid hb
              clear eg
              go_wp2_with fail
              refine HG.out.mono ?_
              rintro e w5 ⟨rfl, b5⟩
              have M5 := Lib.hid (hM.out.below b5)
              clear b5 HG hM
              go_upto_region 28 with (fail)
              obtain ⟨W6, eW6⟩ : ∃ X, w5.alloc (.cells #[.int .i64 (em : Int), .int .i64 ei, .int .i64 en, .bool et] 40) = X := ⟨_, rfl⟩
              rw [eW6]
              have M6 := Lib.hid (M5.out.below (w' := W6) (by rw [← eW6]; exact (Below.refl _ _).alloc (Nat.le_refl _) _))
              have u6 : W6.cell? ⟨ub, s, none⟩ = some (.bool eb) := M6.out.cell hb.out
              clear eW6 M5
              cases eb with
              | true =>
                have hE2 : Hid (m + 1 = (stN.U.take (s + 1)).count true) := Lib.hid (by rw [hct, hE.out]; simp)
                clear hE hct
                go_wp2_with fail
                go_roundw
                case rel => exact ⟨s + 1, m + 1, by go_num, by go_num, by omega, by omega, hE2, M6⟩
                case measure => simp [intOf]; omega
              | false =>
                have hE2 : Hid (m = (stN.U.take (s + 1)).count true) := Lib.hid (by rw [hct, hE.out]; simp)
                clear hE hct
                go_wp2_with fail
                go_roundw
                case rel => exact ⟨s + 1, m, by go_num, rfl, by omega, by omega, hE2, M6⟩
                case measure => simp [intOf]; omega
            · have hsR : s = R := by omega
              have ds : decide (s < R) = false := decide_eq_false hsl
              have ds' : decide ((s : Int) < (R : Int)) = false := decide_eq_false (by omega)
              have h2 := two_count hM.out.ar.ok hM.out.two
              have h3 := count_both stN.U
              have h4 : stN.U.count true = m := by rw [hX.out, hE.out, hsR]
              rw [hUl.out] at h3
              have HC0 := fun (W : World) (h : AR B c F stN W) => Count_any B c F stN 0 W (Lib.hid h) (by have := hM.out.two; omega)
              have HC1 := fun (W : World) (h : AR B c F stN W) => Count_any B c F stN 1 W (Lib.hid h) (by have := hM.out.two; omega)
              have HF := fun (W : World) (h : AR B c F stN W) => Free_any B c F stN W (Lib.hid h)
              obtain ⟨q0, e0⟩ : ∃ n, (listO stN 0).length = n := ⟨_, rfl⟩
              obtain ⟨q1, e1⟩ : ∃ n, (listO stN 1).length = n := ⟨_, rfl⟩
              obtain ⟨fr, e2⟩ : ∃ n, stN.U.count false = n := ⟨_, rfl⟩
              rw [e0, e1] at h2
              rw [e0] at HC0
              rw [e1] at HC1
              rw [e2] at HF h3
              have z1 : ((q0 : Int) + (q1 : Int) != (m : Int)) = false := by
                have : (q0 : Int) + (q1 : Int) = (m : Int) := by omega
                rw [this]; simp
              have z2 : ((fr : Int) != (R : Int) - (m : Int)) = false := by
                have : (fr : Int) = (R : Int) - (m : Int) := by omega
                rw [this]; simp
              have bq : q0 ≤ 4096 ∧ q1 ≤ 4096 := by have := hM.out.ar.room; omega
              obtain ⟨bq0, bq1⟩ := bq
              have hM9 := Lib.hid hM.out.ar
              replace HC0 := Lib.hid HC0
              replace HC1 := Lib.hid HC1
              replace HF := Lib.hid HF
              clear h2 h3 h4 e0 e1 e2 hX hE hsR hsl
              go_wp2_with fail
              refine (HC0.out _ hM9.out).mono ?_
              rintro e w6 ⟨rfl, rfl⟩
              go_wp2_with fail
              refine (HC1.out _ hM9.out).mono ?_
              rintro e w6 ⟨rfl, rfl⟩
              go_wp2_with fail
              refine (HF.out _ hM9.out).mono ?_
              rintro e w6 ⟨rfl, rfl⟩
              go_wp2_with fail
              go_roundw
              case rel => exact ⟨i + 1, stN, by go_num, by omega, by omega, hM⟩
              case measure => simp [intOf]; omega
        | false =>
          go_upto_if 75 with (fail)
          clear hmod
          have HW9 := Lib.hid (fun W => Within_any qn 9 W (by omega) xn.1 xn.2)
          have hv9 := withinN_le qn 9
          obtain ⟨v9, ev9⟩ : ∃ v, withinN qn 9 = v := ⟨_, rfl⟩
          rw [ev9] at HW9 hv9
          clear ev9
          have E1 : Hid (lowF st.U 0 = lowF (st.U.drop 0) 0) := Lib.hid rfl
          have hUl := Lib.hid hM.out.len
          have hi60 : Hid (I64 (i : Int)) := Lib.hid ⟨by omega, by omega⟩
          have HP := Lib.hid (fun (q : Int) => Push_any B c F st q (i : Int) (1 + (v9 : Int)) false wr (Lib.hid hM.out.ar) (by have := hM.out.two; omega) hi60 ⟨by omega, by omega⟩)
          have hpush := Lib.hid (fun (q : Int) (h0 : 0 ≤ q) (h1 : q < 2) => pushO_two hM.out.two h0 h1 (i := (i : Int)) (n := 1 + (v9 : Int)) (t := false) (by omega) (by omega))
          go_wp2_with fail
          go_loop [12] (fun jv => ∃ j : Nat, jv = .int .i64 j ∧ j ≤ R ∧ Hid (lowF st.U 0 = lowF (st.U.drop j) j)) (fun jv => (R - intOf jv).toNat)
          case atStart => exact ⟨0, rfl, by omega, E1⟩
          case round =>
            clear E1
            obtain ⟨j, rfl, hj, hE⟩ := hrel
            by_cases hjl : j < R
            · have dj : decide (j < R) = true := decide_eq_true hjl
              have dj' : decide ((j : Int) < (R : Int)) = true := decide_eq_true (by omega)
              obtain ⟨b2, hb2⟩ : ∃ b, st.U[j]? = some b := ⟨_, List.getElem?_eq_getElem (by rw [hUl.out]; exact hjl)⟩
              have u2 : wr.cell? ⟨ub, j, none⟩ = some (.bool b2) := hM.out.cell hb2
              cases b2 with
              | true =>
                have hE2 : Hid (lowF st.U 0 = lowF (st.U.drop (j + 1)) (j + 1)) := Lib.hid (by rw [hE.out, lowF_used hb2])
                clear hE hb2
                go_wp2_with fail
                go_round
                case rel => exact ⟨j + 1, by go_num, by omega, hE2⟩
                case measure => simp [intOf]; omega
              | false =>
                have el : lowF st.U 0 = (j : Int) := by rw [hE.out, lowF_free hb2]
                have hm2 : (i : Int) % 2 < 2 := by omega
                have hm0 : 0 ≤ (i : Int) % 2 := by omega
                obtain ⟨l9, hp9⟩ := hpush.out ((i : Int) % 2) hm0 hm2
                obtain ⟨p1, p2, p3⟩ := hp9 j el
                have HP2 := HP.out ((i : Int) % 2)
                rw [p1, p2] at HP2
                obtain ⟨stN, esN⟩ : ∃ s, (pushO st ((i : Int) % 2) (i : Int) (1 + (v9 : Int)) false).2.2 = s := ⟨_, rfl⟩
                have hqn := (pushO_q st ((i : Int) % 2) (i : Int) (1 + (v9 : Int)) false).1
                rw [esN] at HP2 p3 hqn
                have hUN : Hid (stN.U = st.U.set j true) := Lib.hid p3
                have hQN : Hid (stN.Q.length = 2) := Lib.hid (by rw [hqn]; exact hM.out.two)
                replace HP2 := Lib.hid HP2
                replace hb2 := Lib.hid hb2
                have dj3 : ((j : Int) != (j : Int)) = false := by simp
                clear p1 p2 p3 hqn esN hp9 el hE hpush HP hm0 hm2
                go_wp2_with fail
                refine (HW9.out _).mono ?_
                rintro e w5 ⟨rfl, rfl⟩
                go_wp2_with fail
                refine HP2.out.mono ?_
                rintro e w7 ⟨rfl, a7, o7⟩
                have M7 := Lib.hid (hM.out.step a7 o7 (stN := stN) hQN.out hFu.out)
                obtain ⟨m7, f7⟩ := M7.out.1 hb2.out
                have hM := Lib.hid (M7.out.2 hb2.out true hUN.out)
                clear HP2 a7 o7 M7 u2
                go_wp2_with fail
                have hUl := Lib.hid hM.out.len
                have hX : Hid (stN.U.count true = (stN.U.take R).count true) := Lib.hid (by rw [List.take_of_length_le (by rw [hUl.out]; omega)])
                have E1 : Hid ((0 : Nat) = (stN.U.take 0).count true) := Lib.hid (by simp)
                go_wp2_with fail
                go_loopw [15, 16] (fun nv sv wz => ∃ s m : Nat, sv = .int .i64 s ∧ nv = .int .i64 m ∧ s ≤ R ∧ m ≤ s ∧ Hid (m = (stN.U.take s).count true) ∧ Hid (Rm B c F ub R stN w wz)) (fun _ sv _ => (R - intOf sv).toNat)
                case atStart => exact ⟨0, 0, rfl, rfl, by omega, by omega, E1, hM⟩
                case round =>
                  clear E1 hM
                  rename World => wz
                  obtain ⟨s, m, rfl, rfl, hs, hms, hE, hM⟩ := hrel
                  by_cases hsl : s < R
                  · have ds : decide (s < R) = true := decide_eq_true hsl
                    have ds' : decide ((s : Int) < (R : Int)) = true := decide_eq_true (by omega)
                    obtain ⟨b, hb⟩ : ∃ b, stN.U[s]? = some b := ⟨_, List.getElem?_eq_getElem (by rw [hUl.out]; exact hsl)⟩
                    have HG := Get_any B c F stN (s : Int) wz (Lib.hid hM.out.ar)
                    have hg2 := getO_used hM.out.ar.ok hb
                    obtain ⟨⟨⟨em, ei, en, et⟩, eb⟩, eg⟩ : ∃ p, getO stN (s : Int) = p := ⟨_, rfl⟩
                    rw [eg] at HG hg2
                    simp only at HG hg2
                    subst hg2
                    rw [show En.val ⟨em, ei, en, et⟩ = .agg #[.int .i64 (em : Int), .int .i64 ei, .int .i64 en, .bool et] from rfl] at HG
                    replace HG := Lib.hid HG
                    have hct := count_take hb true
                    replace hb := Lib.hid hb
                    clear eg
                    go_wp2_with fail
                    refine HG.out.mono ?_
                    rintro e w5 ⟨rfl, b5⟩
                    have M5 := Lib.hid (hM.out.below b5)
                    clear b5 HG hM
                    go_upto_region 28 with (fail)
                    obtain ⟨W6, eW6⟩ : ∃ X, w5.alloc (.cells #[.int .i64 (em : Int), .int .i64 ei, .int .i64 en, .bool et] 40) = X := ⟨_, rfl⟩
                    rw [eW6]
                    have M6 := Lib.hid (M5.out.below (w' := W6) (by rw [← eW6]; exact (Below.refl _ _).alloc (Nat.le_refl _) _))
                    have u6 : W6.cell? ⟨ub, s, none⟩ = some (.bool eb) := M6.out.cell hb.out
                    clear eW6 M5
                    cases eb with
                    | true =>
                      have hE2 : Hid (m + 1 = (stN.U.take (s + 1)).count true) := Lib.hid (by rw [hct, hE.out]; simp)
                      clear hE hct
                      go_wp2_with fail
                      go_roundw
                      case rel => exact ⟨s + 1, m + 1, by go_num, by go_num, by omega, by omega, hE2, M6⟩
                      case measure => simp [intOf]; omega
                    | false =>
                      have hE2 : Hid (m = (stN.U.take (s + 1)).count true) := Lib.hid (by rw [hct, hE.out]; simp)
                      clear hE hct
                      go_wp2_with fail
                      go_roundw
                      case rel => exact ⟨s + 1, m, by go_num, rfl, by omega, by omega, hE2, M6⟩
                      case measure => simp [intOf]; omega
                  · have hsR : s = R := by omega
                    have ds : decide (s < R) = false := decide_eq_false hsl
                    have ds' : decide ((s : Int) < (R : Int)) = false := decide_eq_false (by omega)
                    have h2 := two_count hM.out.ar.ok hM.out.two
                    have h3 := count_both stN.U
                    have h4 : stN.U.count true = m := by rw [hX.out, hE.out, hsR]
                    rw [hUl.out] at h3
                    have HC0 := fun (W : World) (h : AR B c F stN W) => Count_any B c F stN 0 W (Lib.hid h) (by have := hM.out.two; omega)
                    have HC1 := fun (W : World) (h : AR B c F stN W) => Count_any B c F stN 1 W (Lib.hid h) (by have := hM.out.two; omega)
                    have HF := fun (W : World) (h : AR B c F stN W) => Free_any B c F stN W (Lib.hid h)
                    obtain ⟨q0, e0⟩ : ∃ n, (listO stN 0).length = n := ⟨_, rfl⟩
                    obtain ⟨q1, e1⟩ : ∃ n, (listO stN 1).length = n := ⟨_, rfl⟩
                    obtain ⟨fr, e2⟩ : ∃ n, stN.U.count false = n := ⟨_, rfl⟩
                    rw [e0, e1] at h2
                    rw [e0] at HC0
                    rw [e1] at HC1
                    rw [e2] at HF h3
                    have z1 : ((q0 : Int) + (q1 : Int) != (m : Int)) = false := by
                      have : (q0 : Int) + (q1 : Int) = (m : Int) := by omega
                      rw [this]; simp
                    have z2 : ((fr : Int) != (R : Int) - (m : Int)) = false := by
                      have : (fr : Int) = (R : Int) - (m : Int) := by omega
                      rw [this]; simp
                    have bq : q0 ≤ 4096 ∧ q1 ≤ 4096 := by have := hM.out.ar.room; omega
                    obtain ⟨bq0, bq1⟩ := bq
                    have hM9 := Lib.hid hM.out.ar
                    replace HC0 := Lib.hid HC0
                    replace HC1 := Lib.hid HC1
                    replace HF := Lib.hid HF
                    clear h2 h3 h4 e0 e1 e2 hX hE hsR hsl
                    go_wp2_with fail
                    refine (HC0.out _ hM9.out).mono ?_
                    rintro e w6 ⟨rfl, rfl⟩
                    go_wp2_with fail
                    refine (HC1.out _ hM9.out).mono ?_
                    rintro e w6 ⟨rfl, rfl⟩
                    go_wp2_with fail
                    refine (HF.out _ hM9.out).mono ?_
                    rintro e w6 ⟨rfl, rfl⟩
                    go_wp2_with fail
                    go_roundw
                    case rel => exact ⟨i + 1, stN, by go_num, by omega, by omega, hM⟩
                    case measure => simp [intOf]; omega
            · have hjR : j = R := by omega
              have dj : decide (j < R) = false := decide_eq_false hjl
              have dj' : decide ((j : Int) < (R : Int)) = false := decide_eq_false (by omega)
              have el : lowF st.U 0 = -1 := by rw [hE.out, lowF_end (by rw [hUl.out]; omega)]
              have hm2 : (i : Int) % 2 < 2 := by omega
              have hm0 : 0 ≤ (i : Int) % 2 := by omega
              have hp9 := (hpush.out ((i : Int) % 2) hm0 hm2).1 el
              have HP2 := HP.out ((i : Int) % 2)
              rw [hp9] at HP2
              simp only at HP2
              obtain ⟨stN, esN⟩ : ∃ s, st = s := ⟨_, rfl⟩
              subst esN
              replace HP2 := Lib.hid HP2
              clear hp9 el hE hpush HP hm0 hm2 hjR
              go_wp2_with fail
              refine (HW9.out _).mono ?_
              rintro e w5 ⟨rfl, rfl⟩
              go_wp2_with fail
              refine HP2.out.mono ?_
              rintro e w7 ⟨rfl, a7, o7⟩
              have hM := Lib.hid (hM.out.same a7 o7 hFu.out)
              clear HP2 a7 o7
              go_wp2_with fail
              have hUl := Lib.hid hM.out.len
              have hX : Hid (st.U.count true = (st.U.take R).count true) := Lib.hid (by rw [List.take_of_length_le (by rw [hUl.out]; omega)])
              have E1 : Hid ((0 : Nat) = (st.U.take 0).count true) := Lib.hid (by simp)
              go_wp2_with fail
              go_loopw [15, 16] (fun nv sv wz => ∃ s m : Nat, sv = .int .i64 s ∧ nv = .int .i64 m ∧ s ≤ R ∧ m ≤ s ∧ Hid (m = (st.U.take s).count true) ∧ Hid (Rm B c F ub R st w wz)) (fun _ sv _ => (R - intOf sv).toNat)
              case atStart => exact ⟨0, 0, rfl, rfl, by omega, by omega, E1, hM⟩
              case round =>
                clear E1 hM
                rename World => wz
                obtain ⟨s, m, rfl, rfl, hs, hms, hE, hM⟩ := hrel
                by_cases hsl : s < R
                · have ds : decide (s < R) = true := decide_eq_true hsl
                  have ds' : decide ((s : Int) < (R : Int)) = true := decide_eq_true (by omega)
                  obtain ⟨b, hb⟩ : ∃ b, st.U[s]? = some b := ⟨_, List.getElem?_eq_getElem (by rw [hUl.out]; exact hsl)⟩
                  have HG := Get_any B c F st (s : Int) wz (Lib.hid hM.out.ar)
                  have hg2 := getO_used hM.out.ar.ok hb
                  obtain ⟨⟨⟨em, ei, en, et⟩, eb⟩, eg⟩ : ∃ p, getO st (s : Int) = p := ⟨_, rfl⟩
                  rw [eg] at HG hg2
                  simp only at HG hg2
                  subst hg2
                  rw [show En.val ⟨em, ei, en, et⟩ = .agg #[.int .i64 (em : Int), .int .i64 ei, .int .i64 en, .bool et] from rfl] at HG
                  replace HG := Lib.hid HG
                  have hct := count_take hb true
                  replace hb := Lib.hid hb
                  clear eg
                  go_wp2_with fail
                  refine HG.out.mono ?_
                  rintro e w5 ⟨rfl, b5⟩
                  have M5 := Lib.hid (hM.out.below b5)
                  clear b5 HG hM
                  go_upto_region 28 with (fail)
                  obtain ⟨W6, eW6⟩ : ∃ X, w5.alloc (.cells #[.int .i64 (em : Int), .int .i64 ei, .int .i64 en, .bool et] 40) = X := ⟨_, rfl⟩
                  rw [eW6]
                  have M6 := Lib.hid (M5.out.below (w' := W6) (by rw [← eW6]; exact (Below.refl _ _).alloc (Nat.le_refl _) _))
                  have u6 : W6.cell? ⟨ub, s, none⟩ = some (.bool eb) := M6.out.cell hb.out
                  clear eW6 M5
                  cases eb with
                  | true =>
                    have hE2 : Hid (m + 1 = (st.U.take (s + 1)).count true) := Lib.hid (by rw [hct, hE.out]; simp)
                    clear hE hct
                    go_wp2_with fail
                    go_roundw
                    case rel => exact ⟨s + 1, m + 1, by go_num, by go_num, by omega, by omega, hE2, M6⟩
                    case measure => simp [intOf]; omega
                  | false =>
                    have hE2 : Hid (m = (st.U.take (s + 1)).count true) := Lib.hid (by rw [hct, hE.out]; simp)
                    clear hE hct
                    go_wp2_with fail
                    go_roundw
                    case rel => exact ⟨s + 1, m, by go_num, rfl, by omega, by omega, hE2, M6⟩
                    case measure => simp [intOf]; omega
                · have hsR : s = R := by omega
                  have ds : decide (s < R) = false := decide_eq_false hsl
                  have ds' : decide ((s : Int) < (R : Int)) = false := decide_eq_false (by omega)
                  have h2 := two_count hM.out.ar.ok hM.out.two
                  have h3 := count_both st.U
                  have h4 : st.U.count true = m := by rw [hX.out, hE.out, hsR]
                  rw [hUl.out] at h3
                  have HC0 := fun (W : World) (h : AR B c F st W) => Count_any B c F st 0 W (Lib.hid h) (by have := hM.out.two; omega)
                  have HC1 := fun (W : World) (h : AR B c F st W) => Count_any B c F st 1 W (Lib.hid h) (by have := hM.out.two; omega)
                  have HF := fun (W : World) (h : AR B c F st W) => Free_any B c F st W (Lib.hid h)
                  obtain ⟨q0, e0⟩ : ∃ n, (listO st 0).length = n := ⟨_, rfl⟩
                  obtain ⟨q1, e1⟩ : ∃ n, (listO st 1).length = n := ⟨_, rfl⟩
                  obtain ⟨fr, e2⟩ : ∃ n, st.U.count false = n := ⟨_, rfl⟩
                  rw [e0, e1] at h2
                  rw [e0] at HC0
                  rw [e1] at HC1
                  rw [e2] at HF h3
                  have z1 : ((q0 : Int) + (q1 : Int) != (m : Int)) = false := by
                    have : (q0 : Int) + (q1 : Int) = (m : Int) := by omega
                    rw [this]; simp
                  have z2 : ((fr : Int) != (R : Int) - (m : Int)) = false := by
                    have : (fr : Int) = (R : Int) - (m : Int) := by omega
                    rw [this]; simp
                  have bq : q0 ≤ 4096 ∧ q1 ≤ 4096 := by have := hM.out.ar.room; omega
                  obtain ⟨bq0, bq1⟩ := bq
                  have hM9 := Lib.hid hM.out.ar
                  replace HC0 := Lib.hid HC0
                  replace HC1 := Lib.hid HC1
                  replace HF := Lib.hid HF
                  clear h2 h3 h4 e0 e1 e2 hX hE hsR hsl
                  go_wp2_with fail
                  refine (HC0.out _ hM9.out).mono ?_
                  rintro e w6 ⟨rfl, rfl⟩
                  go_wp2_with fail
                  refine (HC1.out _ hM9.out).mono ?_
                  rintro e w6 ⟨rfl, rfl⟩
                  go_wp2_with fail
                  refine (HF.out _ hM9.out).mono ?_
                  rintro e w6 ⟨rfl, rfl⟩
                  go_wp2_with fail
                  go_roundw
                  case rel => exact ⟨i + 1, st, by go_num, by omega, by omega, hM⟩
                  case measure => simp [intOf]; omega
      | false =>
        go_upto_if 75 with (fail)
        have HW9 := Lib.hid (fun W => Within_any qn 9 W (by omega) xn.1 xn.2)
        have hv9 := withinN_le qn 9
        obtain ⟨v9, ev9⟩ : ∃ v, withinN qn 9 = v := ⟨_, rfl⟩
        rw [ev9] at HW9 hv9
        clear ev9
        have E1 : Hid (lowF st.U 0 = lowF (st.U.drop 0) 0) := Lib.hid rfl
        have hUl := Lib.hid hM.out.len
        have hi60 : Hid (I64 (i : Int)) := Lib.hid ⟨by omega, by omega⟩
        have HP := Lib.hid (fun (q : Int) => Push_any B c F st q (i : Int) (1 + (v9 : Int)) false wr (Lib.hid hM.out.ar) (by have := hM.out.two; omega) hi60 ⟨by omega, by omega⟩)
        have hpush := Lib.hid (fun (q : Int) (h0 : 0 ≤ q) (h1 : q < 2) => pushO_two hM.out.two h0 h1 (i := (i : Int)) (n := 1 + (v9 : Int)) (t := false) (by omega) (by omega))
        go_wp2_with fail
        go_loop [12] (fun jv => ∃ j : Nat, jv = .int .i64 j ∧ j ≤ R ∧ Hid (lowF st.U 0 = lowF (st.U.drop j) j)) (fun jv => (R - intOf jv).toNat)
        case atStart => exact ⟨0, rfl, by omega, E1⟩
        case round =>
          clear E1
          obtain ⟨j, rfl, hj, hE⟩ := hrel
          by_cases hjl : j < R
          · have dj : decide (j < R) = true := decide_eq_true hjl
            have dj' : decide ((j : Int) < (R : Int)) = true := decide_eq_true (by omega)
            obtain ⟨b2, hb2⟩ : ∃ b, st.U[j]? = some b := ⟨_, List.getElem?_eq_getElem (by rw [hUl.out]; exact hjl)⟩
            have u2 : wr.cell? ⟨ub, j, none⟩ = some (.bool b2) := hM.out.cell hb2
            cases b2 with
            | true =>
              have hE2 : Hid (lowF st.U 0 = lowF (st.U.drop (j + 1)) (j + 1)) := Lib.hid (by rw [hE.out, lowF_used hb2])
              clear hE hb2
              go_wp2_with fail
              go_round
              case rel => exact ⟨j + 1, by go_num, by omega, hE2⟩
              case measure => simp [intOf]; omega
            | false =>
              have el : lowF st.U 0 = (j : Int) := by rw [hE.out, lowF_free hb2]
              have hm2 : (i : Int) % 2 < 2 := by omega
              have hm0 : 0 ≤ (i : Int) % 2 := by omega
              obtain ⟨l9, hp9⟩ := hpush.out ((i : Int) % 2) hm0 hm2
              obtain ⟨p1, p2, p3⟩ := hp9 j el
              have HP2 := HP.out ((i : Int) % 2)
              rw [p1, p2] at HP2
              obtain ⟨stN, esN⟩ : ∃ s, (pushO st ((i : Int) % 2) (i : Int) (1 + (v9 : Int)) false).2.2 = s := ⟨_, rfl⟩
              have hqn := (pushO_q st ((i : Int) % 2) (i : Int) (1 + (v9 : Int)) false).1
              rw [esN] at HP2 p3 hqn
              have hUN : Hid (stN.U = st.U.set j true) := Lib.hid p3
              have hQN : Hid (stN.Q.length = 2) := Lib.hid (by rw [hqn]; exact hM.out.two)
              replace HP2 := Lib.hid HP2
              replace hb2 := Lib.hid hb2
              have dj3 : ((j : Int) != (j : Int)) = false := by simp
              clear p1 p2 p3 hqn esN hp9 el hE hpush HP hm0 hm2
              go_wp2_with fail
              refine (HW9.out _).mono ?_
              rintro e w5 ⟨rfl, rfl⟩
              go_wp2_with fail
              refine HP2.out.mono ?_
              rintro e w7 ⟨rfl, a7, o7⟩
              have M7 := Lib.hid (hM.out.step a7 o7 (stN := stN) hQN.out hFu.out)
              obtain ⟨m7, f7⟩ := M7.out.1 hb2.out
              have hM := Lib.hid (M7.out.2 hb2.out true hUN.out)
              clear HP2 a7 o7 M7 u2
              go_wp2_with fail
              have hUl := Lib.hid hM.out.len
              have hX : Hid (stN.U.count true = (stN.U.take R).count true) := Lib.hid (by rw [List.take_of_length_le (by rw [hUl.out]; omega)])
              have E1 : Hid ((0 : Nat) = (stN.U.take 0).count true) := Lib.hid (by simp)
              go_wp2_with fail
              go_loopw [15, 16] (fun nv sv wz => ∃ s m : Nat, sv = .int .i64 s ∧ nv = .int .i64 m ∧ s ≤ R ∧ m ≤ s ∧ Hid (m = (stN.U.take s).count true) ∧ Hid (Rm B c F ub R stN w wz)) (fun _ sv _ => (R - intOf sv).toNat)
              case atStart => exact ⟨0, 0, rfl, rfl, by omega, by omega, E1, hM⟩
              case round =>
                clear E1 hM
                rename World => wz
                obtain ⟨s, m, rfl, rfl, hs, hms, hE, hM⟩ := hrel
                by_cases hsl : s < R
                · have ds : decide (s < R) = true := decide_eq_true hsl
                  have ds' : decide ((s : Int) < (R : Int)) = true := decide_eq_true (by omega)
                  obtain ⟨b, hb⟩ : ∃ b, stN.U[s]? = some b := ⟨_, List.getElem?_eq_getElem (by rw [hUl.out]; exact hsl)⟩
                  have HG := Get_any B c F stN (s : Int) wz (Lib.hid hM.out.ar)
                  have hg2 := getO_used hM.out.ar.ok hb
                  obtain ⟨⟨⟨em, ei, en, et⟩, eb⟩, eg⟩ : ∃ p, getO stN (s : Int) = p := ⟨_, rfl⟩
                  rw [eg] at HG hg2
                  simp only at HG hg2
                  subst hg2
                  rw [show En.val ⟨em, ei, en, et⟩ = .agg #[.int .i64 (em : Int), .int .i64 ei, .int .i64 en, .bool et] from rfl] at HG
                  replace HG := Lib.hid HG
                  have hct := count_take hb true
                  replace hb := Lib.hid hb
                  clear eg
                  go_wp2_with fail
                  refine HG.out.mono ?_
                  rintro e w5 ⟨rfl, b5⟩
                  have M5 := Lib.hid (hM.out.below b5)
                  clear b5 HG hM
                  go_upto_region 28 with (fail)
                  obtain ⟨W6, eW6⟩ : ∃ X, w5.alloc (.cells #[.int .i64 (em : Int), .int .i64 ei, .int .i64 en, .bool et] 40) = X := ⟨_, rfl⟩
                  rw [eW6]
                  have M6 := Lib.hid (M5.out.below (w' := W6) (by rw [← eW6]; exact (Below.refl _ _).alloc (Nat.le_refl _) _))
                  have u6 : W6.cell? ⟨ub, s, none⟩ = some (.bool eb) := M6.out.cell hb.out
                  clear eW6 M5
                  cases eb with
                  | true =>
                    have hE2 : Hid (m + 1 = (stN.U.take (s + 1)).count true) := Lib.hid (by rw [hct, hE.out]; simp)
                    clear hE hct
                    go_wp2_with fail
                    go_roundw
                    case rel => exact ⟨s + 1, m + 1, by go_num, by go_num, by omega, by omega, hE2, M6⟩
                    case measure => simp [intOf]; omega
                  | false =>
                    have hE2 : Hid (m = (stN.U.take (s + 1)).count true) := Lib.hid (by rw [hct, hE.out]; simp)
                    clear hE hct
                    go_wp2_with fail
                    go_roundw
                    case rel => exact ⟨s + 1, m, by go_num, rfl, by omega, by omega, hE2, M6⟩
                    case measure => simp [intOf]; omega
                · have hsR : s = R := by omega
                  have ds : decide (s < R) = false := decide_eq_false hsl
                  have ds' : decide ((s : Int) < (R : Int)) = false := decide_eq_false (by omega)
                  have h2 := two_count hM.out.ar.ok hM.out.two
                  have h3 := count_both stN.U
                  have h4 : stN.U.count true = m := by rw [hX.out, hE.out, hsR]
                  rw [hUl.out] at h3
                  have HC0 := fun (W : World) (h : AR B c F stN W) => Count_any B c F stN 0 W (Lib.hid h) (by have := hM.out.two; omega)
                  have HC1 := fun (W : World) (h : AR B c F stN W) => Count_any B c F stN 1 W (Lib.hid h) (by have := hM.out.two; omega)
                  have HF := fun (W : World) (h : AR B c F stN W) => Free_any B c F stN W (Lib.hid h)
                  obtain ⟨q0, e0⟩ : ∃ n, (listO stN 0).length = n := ⟨_, rfl⟩
                  obtain ⟨q1, e1⟩ : ∃ n, (listO stN 1).length = n := ⟨_, rfl⟩
                  obtain ⟨fr, e2⟩ : ∃ n, stN.U.count false = n := ⟨_, rfl⟩
                  rw [e0, e1] at h2
                  rw [e0] at HC0
                  rw [e1] at HC1
                  rw [e2] at HF h3
                  have z1 : ((q0 : Int) + (q1 : Int) != (m : Int)) = false := by
                    have : (q0 : Int) + (q1 : Int) = (m : Int) := by omega
                    rw [this]; simp
                  have z2 : ((fr : Int) != (R : Int) - (m : Int)) = false := by
                    have : (fr : Int) = (R : Int) - (m : Int) := by omega
                    rw [this]; simp
                  have bq : q0 ≤ 4096 ∧ q1 ≤ 4096 := by have := hM.out.ar.room; omega
                  obtain ⟨bq0, bq1⟩ := bq
                  have hM9 := Lib.hid hM.out.ar
                  replace HC0 := Lib.hid HC0
                  replace HC1 := Lib.hid HC1
                  replace HF := Lib.hid HF
                  clear h2 h3 h4 e0 e1 e2 hX hE hsR hsl
                  go_wp2_with fail
                  refine (HC0.out _ hM9.out).mono ?_
                  rintro e w6 ⟨rfl, rfl⟩
                  go_wp2_with fail
                  refine (HC1.out _ hM9.out).mono ?_
                  rintro e w6 ⟨rfl, rfl⟩
                  go_wp2_with fail
                  refine (HF.out _ hM9.out).mono ?_
                  rintro e w6 ⟨rfl, rfl⟩
                  go_wp2_with fail
                  go_roundw
                  case rel => exact ⟨i + 1, stN, by go_num, by omega, by omega, hM⟩
                  case measure => simp [intOf]; omega
          · have hjR : j = R := by omega
            have dj : decide (j < R) = false := decide_eq_false hjl
            have dj' : decide ((j : Int) < (R : Int)) = false := decide_eq_false (by omega)
            have el : lowF st.U 0 = -1 := by rw [hE.out, lowF_end (by rw [hUl.out]; omega)]
            have hm2 : (i : Int) % 2 < 2 := by omega
            have hm0 : 0 ≤ (i : Int) % 2 := by omega
            have hp9 := (hpush.out ((i : Int) % 2) hm0 hm2).1 el
            have HP2 := HP.out ((i : Int) % 2)
            rw [hp9] at HP2
            simp only at HP2
            obtain ⟨stN, esN⟩ : ∃ s, st = s := ⟨_, rfl⟩
            subst esN
            replace HP2 := Lib.hid HP2
            clear hp9 el hE hpush HP hm0 hm2 hjR
            go_wp2_with fail
            refine (HW9.out _).mono ?_
            rintro e w5 ⟨rfl, rfl⟩
            go_wp2_with fail
            refine HP2.out.mono ?_
            rintro e w7 ⟨rfl, a7, o7⟩
            have hM := Lib.hid (hM.out.same a7 o7 hFu.out)
            clear HP2 a7 o7
            go_wp2_with fail
            have hUl := Lib.hid hM.out.len
            have hX : Hid (st.U.count true = (st.U.take R).count true) := Lib.hid (by rw [List.take_of_length_le (by rw [hUl.out]; omega)])
            have E1 : Hid ((0 : Nat) = (st.U.take 0).count true) := Lib.hid (by simp)
            go_wp2_with fail
            go_loopw [15, 16] (fun nv sv wz => ∃ s m : Nat, sv = .int .i64 s ∧ nv = .int .i64 m ∧ s ≤ R ∧ m ≤ s ∧ Hid (m = (st.U.take s).count true) ∧ Hid (Rm B c F ub R st w wz)) (fun _ sv _ => (R - intOf sv).toNat)
            case atStart => exact ⟨0, 0, rfl, rfl, by omega, by omega, E1, hM⟩
            case round =>
              clear E1 hM
              rename World => wz
              obtain ⟨s, m, rfl, rfl, hs, hms, hE, hM⟩ := hrel
              by_cases hsl : s < R
              · have ds : decide (s < R) = true := decide_eq_true hsl
                have ds' : decide ((s : Int) < (R : Int)) = true := decide_eq_true (by omega)
                obtain ⟨b, hb⟩ : ∃ b, st.U[s]? = some b := ⟨_, List.getElem?_eq_getElem (by rw [hUl.out]; exact hsl)⟩
                have HG := Get_any B c F st (s : Int) wz (Lib.hid hM.out.ar)
                have hg2 := getO_used hM.out.ar.ok hb
                obtain ⟨⟨⟨em, ei, en, et⟩, eb⟩, eg⟩ : ∃ p, getO st (s : Int) = p := ⟨_, rfl⟩
                rw [eg] at HG hg2
                simp only at HG hg2
                subst hg2
                rw [show En.val ⟨em, ei, en, et⟩ = .agg #[.int .i64 (em : Int), .int .i64 ei, .int .i64 en, .bool et] from rfl] at HG
                replace HG := Lib.hid HG
                have hct := count_take hb true
                replace hb := Lib.hid hb
                clear eg
                go_wp2_with fail
                refine HG.out.mono ?_
                rintro e w5 ⟨rfl, b5⟩
                have M5 := Lib.hid (hM.out.below b5)
                clear b5 HG hM
                go_upto_region 28 with (fail)
                obtain ⟨W6, eW6⟩ : ∃ X, w5.alloc (.cells #[.int .i64 (em : Int), .int .i64 ei, .int .i64 en, .bool et] 40) = X := ⟨_, rfl⟩
                rw [eW6]
                have M6 := Lib.hid (M5.out.below (w' := W6) (by rw [← eW6]; exact (Below.refl _ _).alloc (Nat.le_refl _) _))
                have u6 : W6.cell? ⟨ub, s, none⟩ = some (.bool eb) := M6.out.cell hb.out
                clear eW6 M5
                cases eb with
                | true =>
                  have hE2 : Hid (m + 1 = (st.U.take (s + 1)).count true) := Lib.hid (by rw [hct, hE.out]; simp)
                  clear hE hct
                  go_wp2_with fail
                  go_roundw
                  case rel => exact ⟨s + 1, m + 1, by go_num, by go_num, by omega, by omega, hE2, M6⟩
                  case measure => simp [intOf]; omega
                | false =>
                  have hE2 : Hid (m = (st.U.take (s + 1)).count true) := Lib.hid (by rw [hct, hE.out]; simp)
                  clear hE hct
                  go_wp2_with fail
                  go_roundw
                  case rel => exact ⟨s + 1, m, by go_num, rfl, by omega, by omega, hE2, M6⟩
                  case measure => simp [intOf]; omega
              · have hsR : s = R := by omega
                have ds : decide (s < R) = false := decide_eq_false hsl
                have ds' : decide ((s : Int) < (R : Int)) = false := decide_eq_false (by omega)
                have h2 := two_count hM.out.ar.ok hM.out.two
                have h3 := count_both st.U
                have h4 : st.U.count true = m := by rw [hX.out, hE.out, hsR]
                rw [hUl.out] at h3
                have HC0 := fun (W : World) (h : AR B c F st W) => Count_any B c F st 0 W (Lib.hid h) (by have := hM.out.two; omega)
                have HC1 := fun (W : World) (h : AR B c F st W) => Count_any B c F st 1 W (Lib.hid h) (by have := hM.out.two; omega)
                have HF := fun (W : World) (h : AR B c F st W) => Free_any B c F st W (Lib.hid h)
                obtain ⟨q0, e0⟩ : ∃ n, (listO st 0).length = n := ⟨_, rfl⟩
                obtain ⟨q1, e1⟩ : ∃ n, (listO st 1).length = n := ⟨_, rfl⟩
                obtain ⟨fr, e2⟩ : ∃ n, st.U.count false = n := ⟨_, rfl⟩
                rw [e0, e1] at h2
                rw [e0] at HC0
                rw [e1] at HC1
                rw [e2] at HF h3
                have z1 : ((q0 : Int) + (q1 : Int) != (m : Int)) = false := by
                  have : (q0 : Int) + (q1 : Int) = (m : Int) := by omega
                  rw [this]; simp
                have z2 : ((fr : Int) != (R : Int) - (m : Int)) = false := by
                  have : (fr : Int) = (R : Int) - (m : Int) := by omega
                  rw [this]; simp
                have bq : q0 ≤ 4096 ∧ q1 ≤ 4096 := by have := hM.out.ar.room; omega
                obtain ⟨bq0, bq1⟩ := bq
                have hM9 := Lib.hid hM.out.ar
                replace HC0 := Lib.hid HC0
                replace HC1 := Lib.hid HC1
                replace HF := Lib.hid HF
                clear h2 h3 h4 e0 e1 e2 hX hE hsR hsl
                go_wp2_with fail
                refine (HC0.out _ hM9.out).mono ?_
                rintro e w6 ⟨rfl, rfl⟩
                go_wp2_with fail
                refine (HC1.out _ hM9.out).mono ?_
                rintro e w6 ⟨rfl, rfl⟩
                go_wp2_with fail
                refine (HF.out _ hM9.out).mono ?_
                rintro e w6 ⟨rfl, rfl⟩
                go_wp2_with fail
                go_roundw
                case rel => exact ⟨i + 1, st, by go_num, by omega, by omega, hM⟩
                case measure => simp [intOf]; omega
    · have HK := Lib.hid (Known_any wr)
      have fin : Hid (∀ w', Below wr.heap.size wr w' → Below w.heap.size w w') := Lib.hid (fun w' b => by
        rw [eB.out]; exact hM.out.bel.trans (b.mono hM.out.bsz))
      by_cases c1 : i < n
      · have e60 : i = 60 := by omega
        subst e60
        have d1 : decide ((60 : Int) < (n : Int)) = true := decide_eq_true (by omega)
        have d1' : decide (60 < n) = true := decide_eq_true c1
        clear hc hi2
        go_wp2_with fail
        refine HK.out.mono ?_
        rintro e w5 ⟨rfl, b5⟩
        go_wp2_with fail
        go_ret
        exact ⟨rfl, fin.out _ b5⟩
      · obtain rfl : i = n := by omega
        have d1 : decide ((i : Int) < (i : Int)) = false := decide_eq_false (by omega)
        have d1' : decide (i < i) = false := decide_eq_false (by omega)
        clear hc
        go_wp2_with fail
        refine HK.out.mono ?_
        rintro e w5 ⟨rfl, b5⟩
        go_wp2_with fail
        go_ret
        exact ⟨rfl, fin.out _ b5⟩
end Go.Proofs.Ytcfmnmknbebfnaa
