/-
  Implied quotes: months' prices that are all so much higher.
-/
import Derived.Test.YtdeofifidjbolaaImFacts3
namespace Go.Proofs.Ytdeofifidjbolaa
open Go.RowKit
set_option linter.unusedVariables false
set_option linter.unusedSimpArgs false

def shiftX (k : Int) (x : Tp) : Tp := ⟨x.h0, x.h1, x.p0 + k, x.p1 + k, x.q0, x.q1⟩
def shiftQ (k : Int) (q : Qt) : Qt := ⟨q.p + k, q.n, q.i1, q.s1, q.i2, q.s2⟩
/-- The first n tops so much higher. -/
def shiftT (k : Int) (n : Nat) (T : List Tp) : List Tp := (T.take n).map (shiftX k) ++ T.drop n
theorem shiftT_len (k : Int) (n : Nat) (T : List Tp) : (shiftT k n T).length = T.length := by
  unfold shiftT
  rw [List.length_append, List.length_map, List.length_take, List.length_drop]; omega
theorem shiftT_at {k : Int} {n : Nat} {T : List Tp} (h : n ≤ T.length) {i : Int} (hi : 0 ≤ i) : topAt (shiftT k n T) i = if i < n then shiftX k (topAt T i) else topAt T i := by
  unfold topAt shiftT
  rw [List.getD_eq_getElem?_getD, List.getD_eq_getElem?_getD]
  by_cases c : i < n
  · have hl : i.toNat < T.length := by omega
    rw [if_pos c, List.getElem?_append_left (by rw [List.length_map, List.length_take]; omega), List.getElem?_map, List.getElem?_take, if_pos (by omega), List.getElem?_eq_getElem hl]
    rfl
  · rw [if_neg c, List.getElem?_append_right (by rw [List.length_map, List.length_take]; omega), List.length_map, List.length_take, List.getElem?_drop, show n + (i.toNat - min n T.length) = i.toNat by omega]
theorem shiftX_is (k : Int) (x : Tp) (s : Int) : (shiftX k x).has s = x.has s ∧ (shiftX k x).price s = x.price s + k ∧ (shiftX k x).qty s = x.qty s := by
  unfold Tp.has Tp.price Tp.qty shiftX
  split <;> exact ⟨rfl, rfl, rfl⟩
theorem joinQ_both {k : Int} {n : Nat} {T : List Tp} (hn : n ≤ T.length) {a sa b sb : Int} (ha : 0 ≤ a ∧ a < n) (hb : 0 ≤ b ∧ b < n) : joinQ (shiftT k n T) a sa b sb (-1) = joinQ T a sa b sb (-1) := by
  unfold joinQ
  rw [shiftT_at hn ha.1, shiftT_at hn hb.1, if_pos ha.2, if_pos hb.2]
  obtain ⟨x1, x2, x3⟩ := shiftX_is k (topAt T a) sa
  obtain ⟨y1, y2, y3⟩ := shiftX_is k (topAt T b) sb
  unfold joinO
  rw [x1, x2, x3, y1, y2, y3, show legPrice ((topAt T a).price sa + k) ((topAt T b).price sb + k) (-1) = legPrice ((topAt T a).price sa) ((topAt T b).price sb) (-1) by unfold legPrice; rw [if_neg (by decide), if_pos rfl, if_neg (by decide), if_pos rfl]; omega]
theorem joinQ_month {k : Int} (hk : -1000000 ≤ k ∧ k ≤ 1000000) {n : Nat} {T : List Tp} (hn : n ≤ T.length) (hT : ∀ x ∈ T, x.Near) {a sa b sb how : Int} (ho : how = 0 ∨ how = 1) (ha : (n : Int) ≤ a) (hb : 0 ≤ b ∧ b < n) : joinQ (shiftT k n T) a sa b sb how = (joinQ T a sa b sb how).map (shiftQ k) := by
  unfold joinQ
  rw [shiftT_at hn (show 0 ≤ a by omega), shiftT_at hn hb.1, if_neg (by omega), if_pos hb.2]
  obtain ⟨y1, y2, y3⟩ := shiftX_is k (topAt T b) sb
  have hN := legPrice_near ((topAt_near hT a).price sa) ((topAt_near hT b).price sb) how
  have e : legPrice ((topAt T a).price sa) ((topAt T b).price sb + k) how = legPrice ((topAt T a).price sa) ((topAt T b).price sb) how + k := by
    unfold legPrice
    rcases ho with rfl | rfl
    · rw [if_pos rfl, if_pos rfl]; omega
    · rw [if_neg (by decide), if_neg (by decide), if_neg (by decide), if_neg (by decide)]; omega
  have i1 : I64 (legPrice ((topAt T a).price sa) ((topAt T b).price sb) how) := near_I64 hN
  have i2 : I64 (legPrice ((topAt T a).price sa) ((topAt T b).price sb) how + k) := ⟨by omega, by omega⟩
  unfold joinO
  rw [y1, y2, y3, e]
  by_cases c : (topAt T a).has sa = true ∧ (topAt T b).has sb = true
  · rw [if_pos ⟨c.1, c.2, i2⟩, if_pos ⟨c.1, c.2, i1⟩]
    rfl
  · rw [if_neg (fun h => c ⟨h.1, h.2.1⟩), if_neg (fun h => c ⟨h.1, h.2.1⟩)]
    rfl
/-- Products of the same number of months, both sound, have the same instruments. -/
theorem legsL_same {p q : PD} (hp : chk p = 0) (hq : chk q = 0) (hn : q.n1 = p.n1) (i : Int) : legsL q i = legsL p i := by
  unfold legsL
  rw [hp, hq, hn]
theorem cntL_same {p q : PD} (hp : chk p = 0) (hq : chk q = 0) (hn : q.n1 = p.n1) : cntL q = cntL p := by
  unfold cntL
  rw [hp, hq, hn]
theorem spreadI_same {p q : PD} (hp : chk p = 0) (hq : chk q = 0) (hn : q.n1 = p.n1) (i j : Int) : spreadI q i j = spreadI p i j := by
  have h : ∀ d k, spreadFrom q i j d k = spreadFrom p i j d k := by
    intro d
    induction d with
    | zero => intro k; rfl
    | succ d ih => intro k; rw [spreadFrom_succ, spreadFrom_succ, ih, legsL_same hp hq hn]
  unfold spreadI
  rw [h, cntL_same hp hq hn, hn]
theorem laterQ_shift {p q : PD} (hp : chk p = 0) (hq : chk q = 0) (hn : q.n1 = p.n1) {k : Int} (hk : -1000000 ≤ k ∧ k ≤ 1000000) {T : List Tp} (hl : p.n1 ≤ T.length) (hT : ∀ x ∈ T, x.Near) (inst : Nat) (side : Int) (d m : Nat) (hm : inst < m) (hmd : m + d ≤ p.n1) :
    laterQ q (shiftT k p.n1 T) inst side d m = (laterQ p T inst side d m).map (shiftQ k) := by
  induction d generalizing m with
  | zero => rfl
  | succ d ih =>
    obtain ⟨s, e, s1, s2, -⟩ := spread_two hp hm (show m < p.n1 by omega)
    rw [laterQ, laterQ, List.map_append, spreadI_same hp hq hn, e, joinQ_month hk hl hT (.inr rfl) (by omega) (by omega)]
    have := ih (m + 1) (by omega) (by omega)
    rw [show ((m + 1 : Nat) : Int) = (m : Int) + 1 by omega] at this
    rw [this]
theorem earlierQ_shift {p q : PD} (hp : chk p = 0) (hq : chk q = 0) (hn : q.n1 = p.n1) {k : Int} (hk : -1000000 ≤ k ∧ k ≤ 1000000) {T : List Tp} (hl : p.n1 ≤ T.length) (hT : ∀ x ∈ T, x.Near) (inst : Nat) (hin : inst < p.n1) (side : Int) (d m : Nat) (hmd : m + d ≤ inst) :
    earlierQ q (shiftT k p.n1 T) inst side d m = (earlierQ p T inst side d m).map (shiftQ k) := by
  induction d generalizing m with
  | zero => rfl
  | succ d ih =>
    obtain ⟨s, e, s1, s2, -⟩ := spread_two hp (show m < inst by omega) hin
    rw [earlierQ, earlierQ, List.map_append, spreadI_same hp hq hn, e, joinQ_month hk hl hT (.inl rfl) (by omega) (by omega)]
    have := ih (m + 1) (by omega)
    rw [show ((m + 1 : Nat) : Int) = (m : Int) + 1 by omega] at this
    rw [this]
theorem allQ_shift {p q : PD} (hp : chk p = 0) (hq : chk q = 0) (hn : q.n1 = p.n1) {k : Int} (hk : -1000000 ≤ k ∧ k ≤ 1000000) {T : List Tp} (hl : T.length = cntL p) (hT : ∀ x ∈ T, x.Near) (inst : Nat) (side : Int) :
    allQ q (shiftT k p.n1 T) inst side = if inst < p.n1 then (allQ p T inst side).map (shiftQ k) else allQ p T inst side := by
  have hle : p.n1 ≤ T.length := by rw [hl]; unfold cntL; rw [if_pos hp]; omega
  have ea : askB q (shiftT k p.n1 T).length inst side = askB p T.length inst side := by
    unfold askB
    rw [shiftT_len, cntL_same hp hq hn, hp, hq]
  unfold allQ
  rw [ea, legsL_same hp hq hn, hn]
  by_cases c : askB p T.length inst side = true
  · rw [if_pos c, if_pos c]
    obtain ⟨-, -, h0, hlt, hd⟩ := (askB_iff _ _ _ _).1 c
    obtain ⟨-, i, j, hleg, hi1, hj1⟩ := legs_range (p := p) (inst := (inst : Int)) h0 (by omega)
    rw [hleg]
    by_cases e : inst < p.n1
    · rw [if_pos e, decide_eq_false (by omega)]
      simp only [if_false, Bool.false_eq_true]
      have a := laterQ_shift hp hq hn hk hle hT inst side (p.n1 - (inst + 1)) (inst + 1) (by omega) (by omega)
      have b := earlierQ_shift hp hq hn hk hle hT inst e side inst 0 (by omega)
      rw [List.map_append]
      exact congr (congrArg _ a) b
    · rw [if_neg e, decide_eq_true (by omega)]
      simp only [if_true]
      exact joinQ_both hle ⟨by omega, by omega⟩ ⟨by omega, by omega⟩
  · rw [if_neg c, if_neg c]
    split <;> rfl
/-- A month's price is good in the higher product where the lower one's is. -/
theorem priceL_shift {p q : PD} (hp : chk p = 0) (hq : chk q = 0) (hn : q.n1 = p.n1) {k : Int} (ht : q.tick = p.tick) (hw : q.wide = p.wide) (h1 : q.low = p.low + k) (h2 : q.high = p.high + k) (hk : k.tmod p.tick = 0) (inst : Nat) (x : Int) :
    priceL q inst (if inst < p.n1 then x + k else x) = priceL p inst x := by
  have hm : (x + k).tmod p.tick ≠ 0 ↔ x.tmod p.tick ≠ 0 := by
    have a : p.tick ∣ k := Int.dvd_of_tmod_eq_zero hk
    constructor
    · intro h g
      exact h (Int.tmod_eq_zero_of_dvd (Int.dvd_add (Int.dvd_of_tmod_eq_zero g) a))
    · intro h g
      exact h (Int.tmod_eq_zero_of_dvd ((Int.dvd_add_left a).1 (Int.dvd_of_tmod_eq_zero g)))
  unfold priceL
  rw [cntL_same hp hq hn, hp, hq, ht, hw, h1, h2, legsL_same hp hq hn]
  simp only [ne_eq, not_true_eq_false, if_false]
  by_cases c : (inst : Int) < 0 ∨ (cntL p : Int) ≤ inst
  · rw [if_pos c, if_pos c]
  · rw [if_neg c, if_neg c]
    obtain ⟨-, i, j, hleg, hi1, hj1⟩ := legs_range (p := p) (inst := (inst : Int)) (by omega) (by omega)
    rw [hleg]
    by_cases e : inst < p.n1
    · rw [if_pos e, decide_eq_false (by omega)]
      by_cases d : x.tmod p.tick ≠ 0
      · rw [if_pos d, if_pos (hm.2 d)]
      · rw [if_neg d, if_neg (fun h => d (hm.1 h))]
        simp only [if_false, Bool.false_eq_true]
        by_cases f : x < p.low ∨ p.high < x
        · rw [if_pos f, if_pos (by omega)]
        · rw [if_neg f, if_neg (by omega)]
    · rw [if_neg e, decide_eq_true (by omega)]
      simp only [if_true]
theorem quotesQ_shift {p q : PD} (hp : chk p = 0) (hq : chk q = 0) (hn : q.n1 = p.n1) {k : Int} (hk : -1000000 ≤ k ∧ k ≤ 1000000) (ht : q.tick = p.tick) (hw : q.wide = p.wide) (h1 : q.low = p.low + k) (h2 : q.high = p.high + k) (hkt : k.tmod p.tick = 0) {T : List Tp} (hl : T.length = cntL p) (hT : ∀ x ∈ T, x.Near) (inst : Nat) (side : Int) :
    quotesQ q (shiftT k p.n1 T) inst side = if inst < p.n1 then (quotesQ p T inst side).map (shiftQ k) else quotesQ p T inst side := by
  have hP := priceL_shift hp hq hn ht hw h1 h2 hkt inst
  unfold quotesQ
  rw [allQ_shift hp hq hn hk hl hT]
  by_cases e : inst < p.n1
  · rw [if_pos e, if_pos e, List.filter_map]
    congr 1
    apply List.filter_congr
    intro y _
    have := hP y.p
    rw [if_pos e] at this
    show decide (priceL q inst (y.p + k) = 0) = decide (priceL p inst y.p = 0)
    rw [this]
  · rw [if_neg e, if_neg e]
    apply List.filter_congr
    intro y _
    have := hP y.p
    rw [if_neg e] at this
    show decide (priceL q inst y.p = 0) = decide (priceL p inst y.p = 0)
    rw [this]
end Go.Proofs.Ytdeofifidjbolaa
