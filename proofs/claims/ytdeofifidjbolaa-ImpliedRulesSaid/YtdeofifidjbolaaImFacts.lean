/-
  Implied quotes: what the statements say of the lists, plainly.
-/
import Derived.Test.YtdeofifidjbolaaImTopsP
import Derived.Test.YtdeofifidjbolaaImShow
namespace Go.Proofs.Ytdeofifidjbolaa
open Go.RowKit
set_option linter.unusedVariables false
set_option linter.unusedSimpArgs false

-- the best
theorem betS_irr (s a : Int) : betS s a a = false := by
  unfold betS; split <;> simp
/-- Nothing of a list is better than its best. -/
theorem bestFrom_top (s : Int) (x : Qt) (l : List Qt) : ∀ y, y = x ∨ y ∈ l → betS s y.p (bestFrom s x l).p = false := by
  induction l generalizing x with
  | nil => 
    intro y hy
    rcases hy with rfl | h
    · exact betS_irr s _
    · cases h
  | cons z l ih =>
    intro y hy
    rw [bestFrom]
    have hz := ih (if betS s z.p x.p = true then z else x) _ (.inl rfl)
    by_cases c : betS s z.p x.p = true
    · rw [if_pos c] at hz ⊢
      rcases hy with rfl | h
      · have : ∀ a b c' : Int, betS s b a = true → betS s b c' = false → betS s a c' = false := fun a b c' h1 h2 => by
          unfold betS at h1 h2 ⊢
          split <;> (rename_i hs; first | rw [if_pos hs] at h1 h2 | rw [if_neg hs] at h1 h2) <;> simp only [decide_eq_true_eq, decide_eq_false_iff_not] at h1 h2 ⊢ <;> omega
        exact this _ _ _ c hz
      · rcases List.mem_cons.1 h with rfl | h
        · exact hz
        · exact ih z y (.inr h)
    · rw [if_neg c] at hz ⊢
      rcases hy with rfl | h
      · exact hz
      · rcases List.mem_cons.1 h with rfl | h
        · have c' : betS s y.p x.p = false := by simpa using c
          have : ∀ a b c' : Int, betS s a b = false → betS s b c' = false → betS s a c' = false := fun a b c' h1 h2 => by
            unfold betS at h1 h2 ⊢
            split <;> (rename_i hs; first | rw [if_pos hs] at h1 h2 | rw [if_neg hs] at h1 h2) <;> simp only [decide_eq_false_iff_not] at h1 h2 ⊢ <;> omega
          exact this _ _ _ c' hz
        · exact ih x y (.inr h)
/-- The first of a list that has the best's price is the best. -/
theorem bestFrom_first (s : Int) (x : Qt) (l : List Qt) : ∃ i : Nat, (x :: l)[i]? = some (bestFrom s x l) ∧ ∀ (j : Nat) (y : Qt), j < i → (x :: l)[j]? = some y → y.p ≠ (bestFrom s x l).p := by
  induction l generalizing x with
  | nil => exact ⟨0, rfl, fun j y hj _ => by omega⟩
  | cons z l ih =>
    rw [bestFrom]
    obtain ⟨i, hi, hf⟩ := ih (if betS s z.p x.p = true then z else x)
    have htop := bestFrom_top s (if betS s z.p x.p = true then z else x) l _ (.inl rfl)
    by_cases c : betS s z.p x.p = true
    · rw [if_pos c] at hi hf htop ⊢
      refine ⟨i + 1, hi, fun j y hj hy => ?_⟩
      cases j with
      | zero =>
        have : x = y := by simpa using hy
        subst this
        intro e
        rw [← e, c] at htop
        cases htop
      | succ j => exact hf j y (by omega) (by simpa using hy)
    · rw [if_neg c] at hi hf htop ⊢
      cases i with
      | zero => exact ⟨0, hi, fun j y hj _ => by omega⟩
      | succ i =>
        refine ⟨i + 2, by simpa using hi, fun j y hj hy => ?_⟩
        have h0 := hf 0 x (by omega) rfl
        match j with
        | 0 =>
          have : x = y := by simpa using hy
          subst this
          exact h0
        | 1 =>
          have : z = y := by simpa using hy
          subst this
          intro e
          have c' : betS s z.p x.p = false := by simpa using c
          have hx : betS s x.p (bestFrom s x l).p = false := htop
          rw [← e] at hx h0
          unfold betS at c' hx
          by_cases hs : s = 1
          · rw [if_pos hs] at c' hx
            simp only [decide_eq_false_iff_not] at c' hx
            omega
          · rw [if_neg hs] at c' hx
            simp only [decide_eq_false_iff_not] at c' hx
            omega
        | j + 2 => exact hf (j + 1) y (by omega) (by simpa using hy)
theorem mostQ_ge (pr q : Int) (l : List Qt) : q ≤ mostQ pr q l := by
  induction l generalizing q with
  | nil => exact Int.le_refl _
  | cons y l ih =>
    rw [mostQ]
    have := ih (if y.p = pr ∧ q < y.n then y.n else q)
    by_cases c : y.p = pr ∧ q < y.n
    · rw [if_pos c] at this ⊢; omega
    · rw [if_neg c] at this ⊢; exact this
theorem mostQ_all (pr q : Int) (l : List Qt) : ∀ y ∈ l, y.p = pr → y.n ≤ mostQ pr q l := by
  induction l generalizing q with
  | nil => intro y hy; cases hy
  | cons z l ih =>
    intro y hy hp
    rw [mostQ]
    rcases List.mem_cons.1 hy with rfl | h
    · have := mostQ_ge pr (if y.p = pr ∧ q < y.n then y.n else q) l
      split at this
      · rw [if_pos (by assumption)]; omega
      · rename_i hn
        rw [if_neg hn]
        have : ¬ q < y.n := fun h => hn ⟨hp, h⟩
        omega
    · exact ih _ y h hp
theorem mostQ_one (pr q : Int) (l : List Qt) : mostQ pr q l = q ∨ ∃ y ∈ l, y.p = pr ∧ y.n = mostQ pr q l := by
  induction l generalizing q with
  | nil => exact .inl rfl
  | cons z l ih =>
    rw [mostQ]
    rcases ih (if z.p = pr ∧ q < z.n then z.n else q) with h | ⟨y, hy, hp, hn⟩
    · by_cases c : z.p = pr ∧ q < z.n
      · rw [if_pos c] at h ⊢; exact .inr ⟨z, by simp, c.1, h.symm⟩
      · rw [if_neg c] at h ⊢; exact .inl h
    · exact .inr ⟨y, by simp [hy], hp, hn⟩
/-- Where all that have the price have some, and one of them has q: it doesn't matter whether q or nought was first. -/
theorem mostQ_nought {pr q : Int} {l : List Qt} {b : Qt} (hb : b ∈ l) (hp : b.p = pr) (hn : b.n = q) (h0 : 0 ≤ q) : mostQ pr q l = mostQ pr 0 l := by
  have a1 := mostQ_all pr 0 l b hb hp
  have a2 := mostQ_ge pr q l
  rcases mostQ_one pr q l with h | ⟨y, hy, hyp, hyn⟩
  · rcases mostQ_one pr 0 l with h' | ⟨y, hy, hyp, hyn⟩
    · omega
    · have := mostQ_all pr q l y hy hyp
      omega
  · have a3 := mostQ_all pr 0 l y hy hyp
    rcases mostQ_one pr 0 l with h' | ⟨y', hy', hyp', hyn'⟩
    · omega
    · have := mostQ_all pr q l y' hy' hyp'
      omega
-- mirrored
def turnX (x : Tp) : Tp := ⟨x.h1, x.h0, -x.p1, -x.p0, x.q1, x.q0⟩
def turnQ (q : Qt) : Qt := ⟨-q.p, q.n, q.i1, 3 - q.s1, q.i2, 3 - q.s2⟩
structure Tp.Near (x : Tp) : Prop where
  a : -1000000 ≤ x.p0 ∧ x.p0 ≤ 1000000
  b : -1000000 ≤ x.p1 ∧ x.p1 ≤ 1000000
theorem Tp.Near.price {x : Tp} (h : x.Near) (s : Int) : -1000000 ≤ x.price s ∧ x.price s ≤ 1000000 := by
  unfold Tp.price; split
  · exact h.a
  · exact h.b
theorem topAt_near {T : List Tp} (h : ∀ x ∈ T, x.Near) (i : Int) : (topAt T i).Near := by
  unfold topAt
  rw [List.getD_eq_getElem?_getD]
  cases e : T[i.toNat]? with
  | none => exact ⟨⟨by decide, by decide⟩, ⟨by decide, by decide⟩⟩
  | some x => exact h x (List.mem_of_getElem? e)
theorem topAt_turn (T : List Tp) (i : Int) : topAt (T.map turnX) i = turnX (topAt T i) := by
  unfold topAt
  rw [List.getD_eq_getElem?_getD, List.getD_eq_getElem?_getD, List.getElem?_map]
  cases T[i.toNat]? with
  | none => rfl
  | some x => rfl
theorem side_cases {s : Int} (h : s = 1 ∨ s = 2) : ∀ x : Tp, (turnX x).has (3 - s) = x.has s ∧ (turnX x).price (3 - s) = -(x.price s) ∧ (turnX x).qty (3 - s) = x.qty s := fun x => by
  rcases h with rfl | rfl <;> exact ⟨rfl, rfl, rfl⟩
theorem legPrice_neg (u v how : Int) : legPrice (-u) (-v) how = -(legPrice u v how) := by
  unfold legPrice
  split
  · omega
  · split <;> omega
theorem legPrice_near {u v : Int} (h1 : -1000000 ≤ u ∧ u ≤ 1000000) (h2 : -1000000 ≤ v ∧ v ≤ 1000000) (how : Int) : -2000000 ≤ legPrice u v how ∧ legPrice u v how ≤ 2000000 := by
  unfold legPrice
  split
  · omega
  · split <;> omega
theorem near_I64 {x : Int} (h : -2000000 ≤ x ∧ x ≤ 2000000) : I64 x := ⟨by omega, by omega⟩
theorem joinQ_turn {T : List Tp} (h : ∀ x ∈ T, x.Near) {a sa b sb how : Int} (ha : sa = 1 ∨ sa = 2) (hb : sb = 1 ∨ sb = 2) : joinQ (T.map turnX) a (3 - sa) b (3 - sb) how = (joinQ T a sa b sb how).map turnQ := by
  unfold joinQ
  rw [topAt_turn, topAt_turn]
  obtain ⟨x1, x2, x3⟩ := side_cases ha (topAt T a)
  obtain ⟨y1, y2, y3⟩ := side_cases hb (topAt T b)
  have hN := legPrice_near ((topAt_near h a).price sa) ((topAt_near h b).price sb) how
  have i1 : I64 (legPrice ((topAt T a).price sa) ((topAt T b).price sb) how) := near_I64 hN
  have i2 : I64 (-(legPrice ((topAt T a).price sa) ((topAt T b).price sb) how)) := near_I64 (by omega)
  unfold joinO
  rw [x1, x2, x3, y1, y2, y3, legPrice_neg]
  by_cases c : (topAt T a).has sa = true ∧ (topAt T b).has sb = true
  · rw [if_pos ⟨c.1, c.2, i2⟩, if_pos ⟨c.1, c.2, i1⟩]
    simp [turnQ]
  · rw [if_neg (fun k => c ⟨k.1, k.2.1⟩), if_neg (fun k => c ⟨k.1, k.2.1⟩)]
    rfl
theorem laterQ_turn (p : PD) {T : List Tp} (h : ∀ x ∈ T, x.Near) {side : Int} (hs : side = 1 ∨ side = 2) (inst : Int) (d : Nat) (m : Int) : laterQ p (T.map turnX) inst (3 - side) d m = (laterQ p T inst side d m).map turnQ := by
  induction d generalizing m with
  | zero => rfl
  | succ d ih => rw [laterQ, laterQ, ih, List.map_append, joinQ_turn h hs hs]
theorem earlierQ_turn (p : PD) {T : List Tp} (h : ∀ x ∈ T, x.Near) {side : Int} (hs : side = 1 ∨ side = 2) (inst : Int) (d : Nat) (m : Int) : earlierQ p (T.map turnX) inst (3 - side) d m = (earlierQ p T inst side d m).map turnQ := by
  induction d generalizing m with
  | zero => rfl
  | succ d ih => rw [earlierQ, earlierQ, ih, List.map_append, joinQ_turn h (by omega) hs]
theorem askB_turn (p : PD) (n : Nat) (inst : Int) {side : Int} (hs : side = 1 ∨ side = 2) : askB p n inst (3 - side) = askB p n inst side := by
  unfold askB
  rcases hs with rfl | rfl <;> rfl
theorem allQ_turn (p : PD) {T : List Tp} (h : ∀ x ∈ T, x.Near) (inst : Int) {side : Int} (hs : side = 1 ∨ side = 2) : allQ p (T.map turnX) inst (3 - side) = (allQ p T inst side).map turnQ := by
  unfold allQ
  rw [List.length_map, askB_turn p _ inst hs]
  by_cases c : askB p T.length inst side = true
  · rw [if_pos c, if_pos c]
    by_cases e : (legsL p inst).2.2 = true
    · rw [if_pos e, if_pos e]
      exact joinQ_turn h hs (by omega)
    · rw [if_neg e, if_neg e, List.map_append, laterQ_turn p h hs, earlierQ_turn p h hs]
  · rw [if_neg c, if_neg c]; rfl
end Go.Proofs.Ytdeofifidjbolaa
