/-
  Contracts: isUsed, isQueue, first, lowestFree, link, of level.
-/
import Derived.Test.YtlknlicokacoiaaLvMem
namespace Go.Proofs.Ytlknlicokacoiaa
open Go.RowKit
set_option linter.unusedVariables false
set_option linter.unusedSimpArgs false

/-- Does the place of this number hold an order? -/
def usedL (L : List Pl) (i : Int) : Bool := if i < 0 then false else match L[i.toNat]? with | some r => decide (0 < r.n) | none => false
theorem usedL_neg {L : List Pl} {i : Int} (h : i < 0) : usedL L i = false := if_pos h
theorem usedL_far {L : List Pl} {i : Nat} (h : L.length ≤ i) : usedL L (i : Int) = false := by
  unfold usedL; rw [if_neg (by omega), Int.toNat_natCast, List.getElem?_eq_none h]
theorem usedL_at {L : List Pl} {i : Nat} {r : Pl} (h : L[i]? = some r) : usedL L (i : Int) = decide (0 < r.n) := by
  unfold usedL; rw [if_neg (by omega), Int.toNat_natCast, h]
set_option maxRecDepth 100000 in
theorem Used_neg (c s : Nat) (q : Value) (L : List Pl) (E : List (Int × Int)) (i : Int) (w : World) (h : i < 0) :
    Calls Try.prog 50 #[.pointer (some ⟨c, 0, none⟩), .int .i64 i] w fun e w' => e = .returned (.bool false) ∧ w = w' := by
  have d1 : decide (i ≥ 0) = false := decide_eq_false (by omega)
  have d2 : ¬ i ≥ 0 := by omega
  go_enter Try.func50, Try.ntmps50
  go_wp2
  go_ret
  exact ⟨rfl, rfl⟩
set_option maxRecDepth 100000 in
theorem Used_far (c s : Nat) (q : Value) (L : List Pl) (E : List (Int × Int)) (i : Nat) (w : World) (hA : Hid (Ar c s q L E w)) (h : L.length ≤ i) :
    Calls Try.prog 50 #[.pointer (some ⟨c, 0, none⟩), .int .i64 i] w fun e w' => e = .returned (.bool false) ∧ w = w' := by
  obtain ⟨c0, c1, f0, f1⟩ := hA.out.cells
  have hr := hA.out.room
  obtain ⟨n, en⟩ : ∃ n, L.length = n := ⟨_, rfl⟩
  rw [en] at h c0 hr
  have d1 : decide ((i : Int) ≥ 0) = true := decide_eq_true (by omega)
  have d3 : decide (i < n) = false := decide_eq_false (by omega)
  clear en
  go_enter Try.func50, Try.ntmps50
  go_wp2
  go_ret
  exact ⟨rfl, rfl⟩
set_option maxRecDepth 100000 in
theorem Used_at (c s : Nat) (q : Value) (L : List Pl) (E : List (Int × Int)) (i : Nat) (r : Pl) (w : World) (hA : Hid (Ar c s q L E w)) (hr : L[i]? = some r) :
    Calls Try.prog 50 #[.pointer (some ⟨c, 0, none⟩), .int .i64 i] w fun e w' => e = .returned (.bool (decide (0 < r.n))) ∧ w = w' := by
  obtain ⟨c0, c1, f0, f1⟩ := hA.out.cells
  have hi : i < L.length := (List.getElem?_eq_some_iff.1 hr).1
  have p2 : w.cell? ⟨s, i * 7 + 2, none⟩ = some (.int .i64 r.n) := (hA.out.place hr 2 (by omega)).1
  have hn := hA.out.room
  obtain ⟨n, en⟩ : ∃ n, L.length = n := ⟨_, rfl⟩
  rw [en] at hi c0 hn
  have d1 : decide ((i : Int) ≥ 0) = true := decide_eq_true (by omega)
  have d3 : decide (i < n) = true := decide_eq_true (by omega)
  obtain ⟨x, ex⟩ : ∃ x, r.n = x := ⟨_, rfl⟩
  rw [ex] at p2 ⊢
  clear en hr ex
  go_enter Try.func50, Try.ntmps50
  go_wp2
  go_ret
  exact ⟨rfl, rfl⟩
theorem Used_any (c s : Nat) (q : Value) (L : List Pl) (E : List (Int × Int)) (i : Int) (w : World) (hA : Hid (Ar c s q L E w)) :
    Calls Try.prog 50 #[.pointer (some ⟨c, 0, none⟩), .int .i64 i] w fun e w' => e = .returned (.bool (usedL L i)) ∧ w = w' := by
  rcases Int.lt_or_le i 0 with h | h
  · rw [usedL_neg h]; exact Used_neg c s q L E i w h
  · obtain ⟨m, rfl⟩ := Int.eq_ofNat_of_zero_le h
    rcases Nat.lt_or_ge m L.length with h1 | h1
    · obtain ⟨r, hr⟩ : ∃ r, L[m]? = some r := ⟨_, List.getElem?_eq_getElem h1⟩
      rw [usedL_at hr]; exact Used_at c s q L E m r w hA hr
    · rw [usedL_far h1]; exact Used_far c s q L E m w hA h1

/-- Is there a queue of this number among n? -/
def isQ (n : Nat) (i : Int) : Bool := decide (0 ≤ i ∧ i < (n : Int))
theorem isQ_yes {n i : Nat} (h : i < n) : isQ n (i : Int) = true := decide_eq_true ⟨by omega, by omega⟩
theorem isQ_no {n : Nat} {i : Int} (h : ¬ (0 ≤ i ∧ i < (n : Int))) : isQ n i = false := decide_eq_false h
set_option maxRecDepth 100000 in
theorem IsQ_any (c s : Nat) (q : Value) (L : List Pl) (E : List (Int × Int)) (i : Int) (w : World) (hA : Hid (Ar c s q L E w)) (hE : E.length ≤ 9223372036854775807) :
    Calls Try.prog 58 #[.pointer (some ⟨c, 0, none⟩), .int .i64 i] w fun e w' => e = .returned (.bool (isQ E.length i)) ∧ w = w' := by
  obtain ⟨c0, c1, f0, f1⟩ := hA.out.cells
  obtain ⟨A, cap, rfl, h1, h2⟩ := hA.out.slice
  obtain ⟨n, en⟩ : ∃ n, E.length = n := ⟨_, rfl⟩
  rw [en] at c1 h1 hE ⊢
  rcases Int.lt_or_le i 0 with h | h
  · rw [isQ_no (by omega)]
    have d1 : decide (i ≥ 0) = false := decide_eq_false (by omega)
    have d2 : ¬ i ≥ 0 := by omega
    clear hA en
    go_enter Try.func58, Try.ntmps58
    go_wp2
    go_ret
    exact ⟨rfl, rfl⟩
  · obtain ⟨m, rfl⟩ := Int.eq_ofNat_of_zero_le h
    have d1 : decide ((m : Int) ≥ 0) = true := decide_eq_true (by omega)
    rcases Nat.lt_or_ge m n with h3 | h3
    · rw [isQ_yes h3]
      have d3 : decide (m < n) = true := decide_eq_true h3
      clear hA en
      go_enter Try.func58, Try.ntmps58
      go_wp2
      go_ret
      exact ⟨rfl, rfl⟩
    · rw [isQ_no (by omega)]
      have d3 : decide (m < n) = false := decide_eq_false (by omega)
      clear hA en
      go_enter Try.func58, Try.ntmps58
      go_wp2
      go_ret
      exact ⟨rfl, rfl⟩
set_option maxRecDepth 100000 in
theorem First_no (c s : Nat) (q : Value) (L : List Pl) (E : List (Int × Int)) (i : Int) (w : World) (hA : Hid (Ar c s q L E w)) (hE : E.length ≤ 9223372036854775807) (h : ¬ (0 ≤ i ∧ i < (E.length : Int))) :
    Calls Try.prog 66 #[.pointer (some ⟨c, 0, none⟩), .int .i64 i] w fun e w' => e = .returned (.int .i64 (-1)) ∧ w = w' := by
  have H := Lib.hid (IsQ_any c s q L E i w hA hE)
  rw [isQ_no h] at H
  clear h
  go_enter Try.func66, Try.ntmps66
  go_wp2_with fail
  refine H.out.mono ?_
  rintro e w' ⟨rfl, rfl⟩
  go_wp2_with fail
  go_ret
  exact ⟨rfl, rfl⟩
set_option maxRecDepth 100000 in
theorem First_at (c s : Nat) (q : Value) (L : List Pl) (E : List (Int × Int)) (i : Nat) (b : Int × Int) (w : World) (hA : Hid (Ar c s q L E w)) (hE : E.length ≤ 9223372036854775807) (h : E[i]? = some b) :
    Calls Try.prog 66 #[.pointer (some ⟨c, 0, none⟩), .int .i64 i] w fun e w' => e = .returned (.int .i64 b.1) ∧ w = w' := by
  have H := Lib.hid (IsQ_any c s q L E i w hA hE)
  have hi : i < E.length := (List.getElem?_eq_some_iff.1 h).1
  rw [isQ_yes hi] at H
  obtain ⟨c0, c1, f0, f1⟩ := hA.out.cells
  obtain ⟨g, cap, rfl, h1, x1, x2, k0, k1, -, -⟩ := hA.out.ends h
  obtain ⟨n, en⟩ : ∃ n, E.length = n := ⟨_, rfl⟩
  rw [en] at c1 h1 hE hi
  obtain ⟨x, ex⟩ : ∃ x, b.1 = x := ⟨_, rfl⟩
  rw [ex] at k0 ⊢
  clear h ex en k1 x1 x2 f0 f1
  go_enter Try.func66, Try.ntmps66
  go_wp2_with fail
  refine H.out.mono ?_
  rintro e w' ⟨rfl, rfl⟩
  go_wp2_with fail
  go_ret
  exact ⟨rfl, rfl⟩

/-! link -/
theorem modify_set {α : Type} {L : List α} {i : Nat} {r : α} {f : α → α} (h : L[i]? = some r) : L.modify i f = L.set i (f r) := by
  apply List.ext_getElem?
  intro j
  rw [List.getElem?_modify, set_get]
  by_cases hj : i = j
  · subst hj
    rw [if_pos rfl, if_pos (List.getElem?_eq_some_iff.1 h).1, h]; simp
  · rw [if_neg hj]; simp only [if_neg hj]; cases L[j]? <;> rfl
theorem foot_set {c s : Nat} {q : Value} {w : World} {b j : Nat} {v : Value} (hb : foot c s q b) : Only (foot c s q) w (w.setCell ⟨b, j, none⟩ v) :=
  (set_only w b j v).mono (fun k _ e => by rw [e]; exact hb)
/-- The first half of link. -/
def half1L (L : List Pl) (p x : Int) : List Pl := if p = -1 then L else L.modify p.toNat (fun r => { r with x := x })
def half1E (E : List (Int × Int)) (q : Nat) (p x : Int) : List (Int × Int) := if p = -1 then E.modify q (fun e => (x, e.2)) else E
theorem linkL_eq (L : List Pl) (p x : Int) : linkL L p x = if x = -1 then half1L L p x else (half1L L p x).modify x.toNat (fun r => { r with p := p }) := rfl
theorem linkE_eq (E : List (Int × Int)) (q : Nat) (p x : Int) : linkE E q p x = if x = -1 then (half1E E q p x).modify q (fun e => (e.1, p)) else half1E E q p x := rfl
theorem half1L_len (L : List Pl) (p x : Int) : (half1L L p x).length = L.length := by unfold half1L; split <;> simp
theorem half1E_len (E : List (Int × Int)) (q : Nat) (p x : Int) : (half1E E q p x).length = E.length := by unfold half1E; split <;> simp
/-- A slot's number, or -1. -/
def Slot (n : Nat) (p : Int) : Prop := p = -1 ∨ ∃ m : Nat, m < n ∧ p = m
set_option maxRecDepth 100000 in
set_option maxHeartbeats 1000000 in
theorem Link_any (c s : Nat) (q : Value) (L : List Pl) (E : List (Int × Int)) (k : Nat) (p x : Int) (w : World) (hA : Hid (Ar c s q L E w)) (hE : E.length ≤ 9223372036854775807) (hk : k < E.length) (hp : Hid (Slot L.length p)) (hx : Hid (Slot L.length x)) :
    Calls Try.prog 60 #[.pointer (some ⟨c, 0, none⟩), .int .i64 k, .int .i64 p, .int .i64 x] w fun e w' => e = .returned (.tuple #[]) ∧ Ar c s q (linkL L p x) (linkE E k p x) w' ∧ Only (foot c s q) w w' := by
  obtain ⟨e0, he⟩ : ∃ e, E[k]? = some e := ⟨_, List.getElem?_eq_getElem hk⟩
  obtain ⟨c0, c1, f0, f1⟩ := hA.out.cells
  obtain ⟨g, cap, eq, h1, x1, x2, k0, k1, z0, z1⟩ := hA.out.ends he
  have hr := hA.out.room
  have hfq : Hid (foot c s q g) := Lib.hid (.inr (.inr (by rw [eq]; rfl)))
  obtain ⟨n, en⟩ : ∃ n, E.length = n := ⟨_, rfl⟩
  obtain ⟨N, eN⟩ : ∃ N, L.length = N := ⟨_, rfl⟩
  rw [eq, en] at c1
  rw [en] at h1 hE hk
  rw [eN] at c0 hr hp hx
  replace eq := Lib.hid eq
  replace en := Lib.hid en
  replace eN := Lib.hid eN
  replace he := Lib.hid he
  have head : ∀ (p : Int), Slot N p → Calls Try.prog 60 #[.pointer (some ⟨c, 0, none⟩), .int .i64 k, .int .i64 p, .int .i64 x] w (fun e w' => e = .returned (.tuple #[]) ∧ Ar c s q (linkL L p x) (linkE E k p x) w' ∧ Only (foot c s q) w w') := by
    clear hp
    intro p hp
    rcases hp with rfl | ⟨pm, hpm, rfl⟩
    · go_enter Try.func60, Try.ntmps60
      go_upto_region 3 with (fail)
      obtain ⟨W1, eW⟩ : ∃ W, w.setCell ⟨g, k * 2, none⟩ (.int .i64 x) = W := ⟨_, rfl⟩
      rw [eW]
      have A1 : Hid (Ar c s q (half1L L (-1) x) (half1E E k (-1) x) W1) := Lib.hid (by
        rw [← eW]; unfold half1L half1E; rw [if_pos rfl, if_pos rfl, modify_set he.out]
        exact Ar.setE' (e := e0) (e' := (x, e0.2)) (m := 0) hA.out eq.out he.out (by omega) rfl)
      have O1 : Hid (Only (foot c s q) w W1) := Lib.hid (by rw [← eW]; exact foot_set hfq.out)
      clear eW k0 k1 z0 z1 c0 c1 f0 f1
      obtain ⟨e1, he1⟩ : ∃ e, (half1E E k (-1) x)[k]? = some e := ⟨_, List.getElem?_eq_getElem (by rw [half1E_len, en.out]; exact hk)⟩
      obtain ⟨c0, c1, f0, f1⟩ := A1.out.cells
      obtain ⟨g', cap', eq', h1', x1', x2', k0, k1, z0, z1⟩ := A1.out.ends he1
      have eqq := eq.out.symm.trans eq'
      rw [half1E_len] at eqq
      injection eqq with e1' e2' e3'
      injection e1' with e1'
      injection e1' with e1'
      subst e1'
      subst e3'
      rw [half1L_len, eN.out] at c0
      rw [eq', half1E_len, en.out] at c1
      replace eq' := Lib.hid eq'
      replace he1 := Lib.hid he1
      clear e2' h1' x1' x2'
      rcases hx.out with rfl | ⟨xm, hxm, rfl⟩
      · go_wp2
        go_end0
        refine ⟨rfl, ?_, ?_⟩
        · rw [linkL_eq, linkE_eq, if_pos rfl, if_pos rfl, modify_set he1.out]
          exact Ar.setE' (e := e1) (e' := (e1.1, -1)) (m := 1) A1.out eq'.out he1.out (by omega) rfl
        · exact O1.out.trans (foot_set hfq.out)
      · obtain ⟨r1, hr1⟩ : ∃ r, (half1L L (-1) (xm : Int))[xm]? = some r := ⟨_, List.getElem?_eq_getElem (by rw [half1L_len, eN.out]; exact hxm)⟩
        have p5 : W1.cell? ⟨s, xm * 7 + 5, none⟩ = some (.int .i64 r1.p) := (A1.out.place hr1 5 (by omega)).1
        have y5 := (A1.out.place hr1 5 (by omega)).2
        have d1 : ((xm : Int) == -1) = false := by simp
        have d2 : ¬ (xm : Int) = -1 := by omega
        replace hr1 := Lib.hid hr1
        go_wp2
        go_end0
        refine ⟨rfl, ?_, ?_⟩
        · rw [linkL_eq, linkE_eq, if_neg d2, if_neg d2, Int.toNat_natCast, modify_set hr1.out]
          exact Ar.setP (r := r1) (r' := { r1 with p := -1 }) (m := 5) A1.out hr1.out (by omega) rfl
        · exact O1.out.trans (foot_set (.inr (.inl rfl)))
    · obtain ⟨r0, hr0⟩ : ∃ r, L[pm]? = some r := ⟨_, List.getElem?_eq_getElem (by rw [eN.out]; exact hpm)⟩
      have p6 : w.cell? ⟨s, pm * 7 + 6, none⟩ = some (.int .i64 r0.x) := (hA.out.place hr0 6 (by omega)).1
      have y6 := (hA.out.place hr0 6 (by omega)).2
      have d0 : ((pm : Int) == -1) = false := by simp
      have d0' : ¬ (pm : Int) = -1 := by omega
      replace hr0 := Lib.hid hr0
      go_enter Try.func60, Try.ntmps60
      go_upto_region 3 with (fail)
      obtain ⟨W1, eW⟩ : ∃ W, w.setCell ⟨s, pm * 7 + 6, none⟩ (.int .i64 x) = W := ⟨_, rfl⟩
      rw [eW]
      have A1 : Hid (Ar c s q (half1L L (pm : Int) x) (half1E E k (pm : Int) x) W1) := Lib.hid (by
        rw [← eW]; unfold half1L half1E; rw [if_neg d0', if_neg d0', Int.toNat_natCast, modify_set hr0.out]
        exact Ar.setP (r := r0) (r' := { r0 with x := x }) (m := 6) hA.out hr0.out (by omega) rfl)
      have O1 : Hid (Only (foot c s q) w W1) := Lib.hid (by rw [← eW]; exact foot_set (.inr (.inl rfl)))
      clear eW k0 k1 z0 z1 c0 c1 f0 f1 p6 y6
      obtain ⟨e1, he1⟩ : ∃ e, (half1E E k (pm : Int) x)[k]? = some e := ⟨_, List.getElem?_eq_getElem (by rw [half1E_len, en.out]; exact hk)⟩
      obtain ⟨c0, c1, f0, f1⟩ := A1.out.cells
      obtain ⟨g', cap', eq', h1', x1', x2', k0, k1, z0, z1⟩ := A1.out.ends he1
      have eqq := eq.out.symm.trans eq'
      rw [half1E_len] at eqq
      injection eqq with e1' e2' e3'
      injection e1' with e1'
      injection e1' with e1'
      subst e1'
      subst e3'
      rw [half1L_len, eN.out] at c0
      rw [eq', half1E_len, en.out] at c1
      replace eq' := Lib.hid eq'
      replace he1 := Lib.hid he1
      clear e2' h1' x1' x2'
      rcases hx.out with rfl | ⟨xm, hxm, rfl⟩
      · go_wp2
        go_end0
        refine ⟨rfl, ?_, ?_⟩
        · rw [linkL_eq, linkE_eq, if_pos rfl, if_pos rfl, modify_set he1.out]
          exact Ar.setE' (e := e1) (e' := (e1.1, (pm : Int))) (m := 1) A1.out eq'.out he1.out (by omega) rfl
        · exact O1.out.trans (foot_set hfq.out)
      · obtain ⟨r1, hr1⟩ : ∃ r, (half1L L (pm : Int) (xm : Int))[xm]? = some r := ⟨_, List.getElem?_eq_getElem (by rw [half1L_len, eN.out]; exact hxm)⟩
        have p5 : W1.cell? ⟨s, xm * 7 + 5, none⟩ = some (.int .i64 r1.p) := (A1.out.place hr1 5 (by omega)).1
        have y5 := (A1.out.place hr1 5 (by omega)).2
        have d1 : ((xm : Int) == -1) = false := by simp
        have d2 : ¬ (xm : Int) = -1 := by omega
        replace hr1 := Lib.hid hr1
        go_wp2
        go_end0
        refine ⟨rfl, ?_, ?_⟩
        · rw [linkL_eq, linkE_eq, if_neg d2, if_neg d2, Int.toNat_natCast, modify_set hr1.out]
          exact Ar.setP (r := r1) (r' := { r1 with p := (pm : Int) }) (m := 5) A1.out hr1.out (by omega) rfl
        · exact O1.out.trans (foot_set (.inr (.inl rfl)))
  exact head p hp.out
end Go.Proofs.Ytlknlicokacoiaa
