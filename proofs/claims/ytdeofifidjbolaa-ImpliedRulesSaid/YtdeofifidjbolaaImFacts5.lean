/-
  The law's own tops: near nought, within int64, none of less than nought.
-/
import Derived.Test.YtdeofifidjbolaaImFacts4
namespace Go.Proofs.Ytdeofifidjbolaa
open Go.RowKit
set_option linter.unusedVariables false
set_option linter.unusedSimpArgs false

theorem topsL_mem {tick : Int} {n : Nat} {L : List Tp} {y : Tp} (h : y ∈ topsL tick n L) : y = zeroT ∨ ∃ x ∈ L, y = turnT tick x := by
  unfold topsL at h
  obtain ⟨i, hi, e⟩ := List.mem_map.1 h
  cases hx : L[i]? with
  | none =>
    simp only [hx] at e
    exact .inl e.symm
  | some x =>
    simp only [hx] at e
    exact .inr ⟨x, List.mem_of_getElem? hx, e.symm⟩
theorem turn_bounds {tick : Int} (t1 : 1 ≤ tick) (t2 : tick ≤ 1000) (z : Int) : -29000 ≤ tick * z.tmod 30 ∧ tick * z.tmod 30 ≤ 29000 := tick_mul (by omega) t2 (tmod30 z).1 (tmod30 z).2
theorem topsL_near {tick : Int} (t1 : 1 ≤ tick) (t2 : tick ≤ 1000) {n : Nat} {L : List Tp} : ∀ y ∈ topsL tick n L, y.Near := fun y h => by
  rcases topsL_mem h with rfl | ⟨x, _, rfl⟩
  · exact ⟨⟨by decide, by decide⟩, ⟨by decide, by decide⟩⟩
  · have a := turn_bounds t1 t2 x.p0
    have b := turn_bounds t1 t2 x.p1
    exact ⟨⟨by show -1000000 ≤ tick * x.p0.tmod 30; omega, by show tick * x.p0.tmod 30 ≤ 1000000; omega⟩, ⟨by show -1000000 ≤ tick * x.p1.tmod 30; omega, by show tick * x.p1.tmod 30 ≤ 1000000; omega⟩⟩
theorem topsL_ok {tick : Int} (t1 : 1 ≤ tick) (t2 : tick ≤ 1000) {n : Nat} {L : List Tp} : OkT (topsL tick n L) := fun y h => by
  rcases topsL_mem h with rfl | ⟨x, _, rfl⟩
  · exact ⟨⟨by decide, by decide⟩, ⟨by decide, by decide⟩, ⟨by decide, by decide⟩, ⟨by decide, by decide⟩⟩
  · have a := turn_bounds t1 t2 x.p0
    have b := turn_bounds t1 t2 x.p1
    have c := withinN_le x.q0 20
    have d := withinN_le x.q1 20
    refine ⟨?_, ?_, ?_, ?_⟩
    · show I64 (tick * x.p0.tmod 30); exact ⟨by omega, by omega⟩
    · show I64 (tick * x.p1.tmod 30); exact ⟨by omega, by omega⟩
    · show I64 (1 + (withinN x.q0 20 : Int)); exact ⟨by omega, by omega⟩
    · show I64 (1 + (withinN x.q1 20 : Int)); exact ⟨by omega, by omega⟩
/-- No quantity below nought. -/
structure Tp.Some0 (x : Tp) : Prop where
  a : 0 ≤ x.q0
  b : 0 ≤ x.q1
theorem topsL_some {tick : Int} {n : Nat} {L : List Tp} : ∀ y ∈ topsL tick n L, y.Some0 := fun y h => by
  rcases topsL_mem h with rfl | ⟨x, _, rfl⟩
  · exact ⟨by decide, by decide⟩
  · exact ⟨by show 0 ≤ 1 + (withinN x.q0 20 : Int); omega, by show 0 ≤ 1 + (withinN x.q1 20 : Int); omega⟩
theorem topAt_some0 {T : List Tp} (h : ∀ x ∈ T, x.Some0) (i s : Int) : 0 ≤ (topAt T i).qty s := by
  have h0 : (topAt T i).Some0 := by
    unfold topAt
    rw [List.getD_eq_getElem?_getD]
    cases e : T[i.toNat]? with
    | none => exact ⟨by decide, by decide⟩
    | some x => exact h x (List.mem_of_getElem? e)
  unfold Tp.qty; split
  · exact h0.a
  · exact h0.b
theorem joinQ_pos {T : List Tp} (h : ∀ x ∈ T, x.Some0) {a sa b sb how : Int} {q : Qt} (hq : q ∈ joinQ T a sa b sb how) : 0 ≤ q.n := by
  obtain ⟨rfl, -, -⟩ := joinQ_mem hq
  have u := topAt_some0 h a sa
  have v := topAt_some0 h b sb
  show 0 ≤ min ((topAt T a).qty sa) ((topAt T b).qty sb)
  omega
theorem laterQ_pos (p : PD) {T : List Tp} (h : ∀ x ∈ T, x.Some0) {inst side : Int} {q : Qt} (d : Nat) (m : Int) (hq : q ∈ laterQ p T inst side d m) : 0 ≤ q.n := by
  induction d generalizing m with
  | zero => cases hq
  | succ d ih =>
    rw [laterQ] at hq
    rcases List.mem_append.1 hq with hq | hq
    · exact joinQ_pos h hq
    · exact ih _ hq
theorem earlierQ_pos (p : PD) {T : List Tp} (h : ∀ x ∈ T, x.Some0) {inst side : Int} {q : Qt} (d : Nat) (m : Int) (hq : q ∈ earlierQ p T inst side d m) : 0 ≤ q.n := by
  induction d generalizing m with
  | zero => cases hq
  | succ d ih =>
    rw [earlierQ] at hq
    rcases List.mem_append.1 hq with hq | hq
    · exact joinQ_pos h hq
    · exact ih _ hq
theorem allQ_pos {p : PD} {T : List Tp} (h : ∀ x ∈ T, x.Some0) {inst side : Int} {q : Qt} (hq : q ∈ allQ p T inst side) : 0 ≤ q.n := by
  unfold allQ at hq
  split at hq
  · split at hq
    · exact joinQ_pos h hq
    · rcases List.mem_append.1 hq with hq | hq
      · exact laterQ_pos p h _ _ hq
      · exact earlierQ_pos p h _ _ hq
  · cases hq
/-- What is shown: the best's price, the most at it counted from nought, how many. -/
theorem showP_some {l : List Qt} (h : ∀ q ∈ l, 0 ≤ q.n) (s : Int) {x : Qt} {r : List Qt} (e : l = x :: r) : showP l s = ((bestFrom s x r).p, mostQ (bestFrom s x r).p 0 l, (countQ (bestFrom s x r).p l : Int), true) := by
  subst e
  have hb : bestFrom s x r ∈ x :: r := by
    rcases bestFrom_mem s x r with h | h
    · rw [h]; exact List.mem_cons_self
    · exact List.mem_cons_of_mem _ h
  show ((bestFrom s x r).p, mostQ (bestFrom s x r).p (bestFrom s x r).n (x :: r), (countQ (bestFrom s x r).p (x :: r) : Int), true) = _
  rw [mostQ_nought hb rfl rfl (h _ hb)]
end Go.Proofs.Ytdeofifidjbolaa
