/-
  Implied quotes: mirrored prices and bests; a top's side gone.
-/
import Derived.Test.YtdeofifidjbolaaImFacts
import Derived.Test.YtdeofifidjbolaaImAll
namespace Go.Proofs.Ytdeofifidjbolaa
open Go.RowKit
set_option linter.unusedVariables false
set_option linter.unusedSimpArgs false

theorem priceL_turn {p : PD} (h : p.low = -p.high) (inst x : Int) : priceL p inst (-x) = priceL p inst x := by
  unfold priceL
  rw [Int.neg_tmod, h]
  by_cases c : chk p ≠ 0
  · rw [if_pos c, if_pos c]
  · rw [if_neg c, if_neg c]
    by_cases c : inst < 0 ∨ (cntL p : Int) ≤ inst
    · rw [if_pos c, if_pos c]
    · rw [if_neg c, if_neg c]
      by_cases c : x.tmod p.tick ≠ 0
      · rw [if_pos c, if_pos (by omega)]
      · rw [if_neg c, if_neg (by omega)]
        by_cases c : (legsL p inst).2.2 = true
        · rw [if_pos c, if_pos c]
          by_cases c : x < -p.wide ∨ p.wide < x
          · rw [if_pos c, if_pos (by omega)]
          · rw [if_neg c, if_neg (by omega)]
        · rw [if_neg c, if_neg c]
          by_cases c : x < -p.high ∨ p.high < x
          · rw [if_pos c, if_pos (by omega)]
          · rw [if_neg c, if_neg (by omega)]
theorem quotesQ_turn {p : PD} (hl : p.low = -p.high) {T : List Tp} (h : ∀ x ∈ T, x.Near) (inst : Int) {side : Int} (hs : side = 1 ∨ side = 2) : quotesQ p (T.map turnX) inst (3 - side) = (quotesQ p T inst side).map turnQ := by
  unfold quotesQ
  rw [allQ_turn p h inst hs, List.filter_map]
  congr 1
  apply List.filter_congr
  intro q _
  show decide (priceL p inst (-q.p) = 0) = decide (priceL p inst q.p = 0)
  rw [priceL_turn hl]
theorem betS_turn {s : Int} (hs : s = 1 ∨ s = 2) (a b : Int) : betS (3 - s) (-a) (-b) = betS s a b := by
  rcases hs with rfl | rfl
  · show decide (-a < -b) = decide (b < a)
    rw [decide_eq_decide]; omega
  · show decide (-b < -a) = decide (a < b)
    rw [decide_eq_decide]; omega
theorem bestFrom_turn {s : Int} (hs : s = 1 ∨ s = 2) (x : Qt) (l : List Qt) : bestFrom (3 - s) (turnQ x) (l.map turnQ) = turnQ (bestFrom s x l) := by
  induction l generalizing x with
  | nil => rfl
  | cons y l ih =>
    rw [List.map_cons, bestFrom, bestFrom]
    have e : betS (3 - s) (turnQ y).p (turnQ x).p = betS s y.p x.p := betS_turn hs y.p x.p
    rw [e]
    by_cases c : betS s y.p x.p = true
    · rw [if_pos c, if_pos c]; exact ih y
    · rw [if_neg c, if_neg c]; exact ih x
theorem mostQ_turn (pr q : Int) (l : List Qt) : mostQ (-pr) q (l.map turnQ) = mostQ pr q l := by
  induction l generalizing q with
  | nil => rfl
  | cons y l ih =>
    rw [List.map_cons, mostQ, mostQ]
    have e : ((turnQ y).p = -pr ∧ q < (turnQ y).n) ↔ (y.p = pr ∧ q < y.n) := by
      show (-y.p = -pr ∧ q < y.n) ↔ _
      omega
    by_cases c : y.p = pr ∧ q < y.n
    · rw [if_pos c, if_pos (e.2 c)]; exact ih _
    · rw [if_neg c, if_neg (fun h => c (e.1 h))]; exact ih _
theorem countQ_turn (pr : Int) (l : List Qt) : countQ (-pr) (l.map turnQ) = countQ pr l := by
  induction l with
  | nil => rfl
  | cons y l ih =>
    rw [List.map_cons, countQ, countQ, ih]
    congr 1
    show (if -y.p = -pr then 1 else 0) = if y.p = pr then 1 else 0
    by_cases c : y.p = pr
    · rw [if_pos c, if_pos (by omega)]
    · rw [if_neg c, if_neg (by omega)]
theorem showP_turn {s : Int} (hs : s = 1 ∨ s = 2) (l : List Qt) : showP (l.map turnQ) (3 - s) = (-(showP l s).1, (showP l s).2.1, (showP l s).2.2.1, (showP l s).2.2.2) := by
  cases l with
  | nil => rfl
  | cons x r =>
    show ((bestFrom (3 - s) (turnQ x) (r.map turnQ)).p, mostQ (bestFrom (3 - s) (turnQ x) (r.map turnQ)).p (bestFrom (3 - s) (turnQ x) (r.map turnQ)).n ((x :: r).map turnQ), (countQ (bestFrom (3 - s) (turnQ x) (r.map turnQ)).p ((x :: r).map turnQ) : Int), true) = _
    rw [bestFrom_turn hs]
    show (-(bestFrom s x r).p, mostQ (-(bestFrom s x r).p) (bestFrom s x r).n ((x :: r).map turnQ), (countQ (-(bestFrom s x r).p) ((x :: r).map turnQ) : Int), true) = _
    rw [mostQ_turn, countQ_turn]
    rfl
-- one top's side gone
def dropX (x : Tp) (s : Int) : Tp := if s = 1 then ⟨false, x.h1, x.p0, x.p1, x.q0, x.q1⟩ else ⟨x.h0, false, x.p0, x.p1, x.q0, x.q1⟩
/-- Is the quote made without this top's side? -/
def keepQ (n s : Int) (q : Qt) : Bool := !((decide (q.i1 = n) && decide (q.s1 = s)) || (decide (q.i2 = n) && decide (q.s2 = s)))
theorem dropX_is {s s' : Int} (h : s = 1 ∨ s = 2) (h' : s' = 1 ∨ s' = 2) (x : Tp) : (dropX x s).has s' = (if s' = s then false else x.has s') ∧ (dropX x s).price s' = x.price s' ∧ (dropX x s).qty s' = x.qty s' := by
  rcases h with rfl | rfl <;> rcases h' with rfl | rfl <;> exact ⟨rfl, rfl, rfl⟩
theorem topAt_drop {T : List Tp} {n : Nat} {x : Tp} (hx : T[n]? = some x) (s : Int) {i : Int} (hi : 0 ≤ i) : topAt (T.set n (dropX x s)) i = if i = n then dropX (topAt T i) s else topAt T i := by
  have hn : n < T.length := (List.getElem?_eq_some_iff.1 hx).1
  unfold topAt
  rw [List.getD_eq_getElem?_getD, List.getD_eq_getElem?_getD, List.getElem?_set]
  by_cases c : i = n
  · rw [if_pos c, if_pos (by omega), if_pos hn, show i.toNat = n by omega, hx]; rfl
  · rw [if_neg c, if_neg (by omega)]
theorem joinQ_drop {T : List Tp} {n : Nat} {x : Tp} (hx : T[n]? = some x) {s a sa b sb : Int} (how : Int) (hs : s = 1 ∨ s = 2) (h1 : sa = 1 ∨ sa = 2) (h2 : sb = 1 ∨ sb = 2) (ha : 0 ≤ a) (hb : 0 ≤ b) : joinQ (T.set n (dropX x s)) a sa b sb how = (joinQ T a sa b sb how).filter (keepQ n s) := by
  have ea : (topAt (T.set n (dropX x s)) a).has sa = (if a = n ∧ sa = s then false else (topAt T a).has sa) ∧ (topAt (T.set n (dropX x s)) a).price sa = (topAt T a).price sa ∧ (topAt (T.set n (dropX x s)) a).qty sa = (topAt T a).qty sa := by
    rw [topAt_drop hx s ha]
    by_cases c : a = n
    · rw [if_pos c]
      obtain ⟨e1, e2, e3⟩ := dropX_is hs h1 (topAt T a)
      rw [e1, e2, e3]
      refine ⟨?_, rfl, rfl⟩
      by_cases d : sa = s
      · rw [if_pos d, if_pos ⟨c, d⟩]
      · rw [if_neg d, if_neg (fun h => d h.2)]
    · rw [if_neg c, if_neg (fun h => c h.1)]
      exact ⟨rfl, rfl, rfl⟩
  have eb : (topAt (T.set n (dropX x s)) b).has sb = (if b = n ∧ sb = s then false else (topAt T b).has sb) ∧ (topAt (T.set n (dropX x s)) b).price sb = (topAt T b).price sb ∧ (topAt (T.set n (dropX x s)) b).qty sb = (topAt T b).qty sb := by
    rw [topAt_drop hx s hb]
    by_cases c : b = n
    · rw [if_pos c]
      obtain ⟨e1, e2, e3⟩ := dropX_is hs h2 (topAt T b)
      rw [e1, e2, e3]
      refine ⟨?_, rfl, rfl⟩
      by_cases d : sb = s
      · rw [if_pos d, if_pos ⟨c, d⟩]
      · rw [if_neg d, if_neg (fun h => d h.2)]
    · rw [if_neg c, if_neg (fun h => c h.1)]
      exact ⟨rfl, rfl, rfl⟩
  obtain ⟨a1, a2, a3⟩ := ea
  obtain ⟨b1, b2, b3⟩ := eb
  unfold joinQ joinO
  rw [a1, a2, a3, b1, b2, b3]
  by_cases c : (topAt T a).has sa = true ∧ (topAt T b).has sb = true ∧ I64 (legPrice ((topAt T a).price sa) ((topAt T b).price sb) how)
  · rw [if_pos c]
    by_cases d : (a = n ∧ sa = s) ∨ (b = n ∧ sb = s)
    · have hk : keepQ n s ⟨legPrice ((topAt T a).price sa) ((topAt T b).price sb) how, min ((topAt T a).qty sa) ((topAt T b).qty sb), a, sa, b, sb⟩ = false := by
        unfold keepQ
        rcases d with ⟨d1, d2⟩ | ⟨d1, d2⟩ <;> simp [d1, d2]
      rw [if_neg (by rcases d with d | d <;> simp [d])]
      simp [hk]
    · have d1 : ¬ (a = n ∧ sa = s) := fun h => d (.inl h)
      have d2 : ¬ (b = n ∧ sb = s) := fun h => d (.inr h)
      have hk : keepQ n s ⟨legPrice ((topAt T a).price sa) ((topAt T b).price sb) how, min ((topAt T a).qty sa) ((topAt T b).qty sb), a, sa, b, sb⟩ = true := by
        unfold keepQ
        simp only [Bool.not_eq_true', Bool.or_eq_false_iff, Bool.and_eq_false_iff, decide_eq_false_iff_not]
        exact ⟨by omega, by omega⟩
      rw [if_neg d1, if_neg d2, if_pos c]
      simp [hk]
  · rw [if_neg c]
    have : ¬ ((if a = n ∧ sa = s then false else (topAt T a).has sa) = true ∧ (if b = n ∧ sb = s then false else (topAt T b).has sb) = true ∧ I64 (legPrice ((topAt T a).price sa) ((topAt T b).price sb) how)) := by
      rintro ⟨e1, e2, e3⟩
      refine c ⟨?_, ?_, e3⟩
      · split at e1
        · cases e1
        · exact e1
      · split at e2
        · cases e2
        · exact e2
    rw [if_neg this]
    rfl
theorem laterQ_drop {p : PD} (hc : chk p = 0) {T : List Tp} {n : Nat} {x : Tp} (hx : T[n]? = some x) {s side : Int} (hs : s = 1 ∨ s = 2) (hd : side = 1 ∨ side = 2) (inst : Int) (d : Nat) (m : Int) (hm : 0 ≤ m) : laterQ p (T.set n (dropX x s)) inst side d m = (laterQ p T inst side d m).filter (keepQ n s) := by
  induction d generalizing m with
  | zero => rfl
  | succ d ih =>
    obtain ⟨sp, e, -⟩ := spreadI_range hc inst m
    rw [laterQ, laterQ, ih _ (by omega), List.filter_append, joinQ_drop hx 1 hs hd hd (by omega) hm]
theorem earlierQ_drop {p : PD} (hc : chk p = 0) {T : List Tp} {n : Nat} {x : Tp} (hx : T[n]? = some x) {s side : Int} (hs : s = 1 ∨ s = 2) (hd : side = 1 ∨ side = 2) (inst : Int) (d : Nat) (m : Int) (hm : 0 ≤ m) : earlierQ p (T.set n (dropX x s)) inst side d m = (earlierQ p T inst side d m).filter (keepQ n s) := by
  induction d generalizing m with
  | zero => rfl
  | succ d ih =>
    obtain ⟨sp, e, -⟩ := spreadI_range hc m inst
    rw [earlierQ, earlierQ, ih _ (by omega), List.filter_append, joinQ_drop hx 0 hs (by omega) hd (by omega) hm]
theorem allQ_drop (p : PD) {T : List Tp} {n : Nat} {x : Tp} (hx : T[n]? = some x) {s : Int} (hs : s = 1 ∨ s = 2) (inst side : Int) : allQ p (T.set n (dropX x s)) inst side = (allQ p T inst side).filter (keepQ n s) := by
  unfold allQ
  rw [List.length_set]
  by_cases c : askB p T.length inst side = true
  · rw [if_pos c, if_pos c]
    obtain ⟨hc, hlen, h0, hlt, hd⟩ := (askB_iff _ _ _ _).1 c
    by_cases e : (legsL p inst).2.2 = true
    · rw [if_pos e, if_pos e]
      obtain ⟨-, i, j, hleg, hi1, hj1⟩ := legs_range (p := p) (inst := inst) h0 (by omega)
      rw [hleg]
      exact joinQ_drop hx (-1) hs hd (by omega) (Int.natCast_nonneg i) (Int.natCast_nonneg j)
    · rw [if_neg e, if_neg e, List.filter_append, laterQ_drop hc hx hs hd _ _ _ (by omega), earlierQ_drop hc hx hs hd _ _ _ (by omega)]
  · rw [if_neg c, if_neg c]; rfl
end Go.Proofs.Ytdeofifidjbolaa
