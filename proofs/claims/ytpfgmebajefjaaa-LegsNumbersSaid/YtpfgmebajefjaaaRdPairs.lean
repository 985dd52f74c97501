/-
  The months of the instruments, as a list of pairs.
-/
import Derived.Test.YtpfgmebajefjaaaRefRange
import Derived.Below
import Derived.Maps.AppendAt
import Derived.Deep.AppendLies
import Derived.RegionTactic
import Derived.OwnWalk
namespace Go.Proofs.Ytpfgmebajefjaaa
open Go.RowKit
set_option linter.unusedVariables false
set_option linter.unusedSimpArgs false

def mon (k : Nat) : List (Nat × Nat) := (List.range k).map (fun i => (i, i))
def rowP (a j : Nat) : List (Nat × Nat) := (List.range (j - (a + 1))).map (fun t => (a, a + 1 + t))
def sprP (n : Nat) : Nat → List (Nat × Nat)
  | 0 => []
  | a + 1 => sprP n a ++ rowP a n
def flat : List (Nat × Nat) → List Value
  | [] => []
  | q :: l => .int .i64 q.1 :: .int .i64 q.2 :: flat l
theorem mon_zero : mon 0 = [] := rfl
theorem mon_succ (k : Nat) : mon (k + 1) = mon k ++ [(k, k)] := by unfold mon; rw [List.range_succ, List.map_append]; rfl
theorem row_start (a : Nat) : rowP a (a + 1) = [] := by unfold rowP; rw [Nat.sub_self]; rfl
theorem row_succ {a j : Nat} (h : a < j) : rowP a (j + 1) = rowP a j ++ [(a, j)] := by
  unfold rowP
  have e : j + 1 - (a + 1) = (j - (a + 1)) + 1 := by omega
  rw [e, List.range_succ, List.map_append, List.map_singleton]
  have e2 : a + 1 + (j - (a + 1)) = j := by omega
  rw [e2]
theorem spr_zero (n : Nat) : sprP n 0 = [] := rfl
theorem spr_succ (n a : Nat) : sprP n (a + 1) = sprP n a ++ rowP a n := rfl
theorem room_of : ∀ n, n < 7 → ∀ a, a < n → ∀ j, j < n → a < j → (mon n ++ sprP n a ++ rowP a j).length < 21 := by decide
theorem mon_len (k : Nat) : (mon k).length = k := by unfold mon; rw [List.length_map, List.length_range]
theorem all_len : ∀ n, n < 7 → (mon n ++ sprP n n).length = n + n * (n - 1) / 2 := by decide
theorem flat_append (l m : List (Nat × Nat)) : flat (l ++ m) = flat l ++ flat m := by
  induction l with
  | nil => rfl
  | cons q l ih => show Value.int .i64 q.1 :: Value.int .i64 q.2 :: flat (l ++ m) = _; rw [ih]; rfl
theorem flat_len (l : List (Nat × Nat)) : (flat l).length = l.length * 2 := by
  induction l with
  | nil => rfl
  | cons q l ih => show (flat l).length + 1 + 1 = (l.length + 1) * 2; omega
theorem flat_at {l : List (Nat × Nat)} {k : Nat} {q : Nat × Nat} (h : l[k]? = some q) : (flat l)[k * 2]? = some (.int .i64 q.1) ∧ (flat l)[k * 2 + 1]? = some (.int .i64 q.2) := by
  induction l generalizing k with
  | nil => cases h
  | cons x l ih =>
    match k, h with
    | 0, h => injection h with h; subst h; exact ⟨rfl, rfl⟩
    | k + 1, h =>
      have := ih (k := k) h
      have e1 : (k + 1) * 2 = k * 2 + 1 + 1 := by omega
      rw [e1]
      exact this
/-- Legs, of a product with so many months. -/
def legsN (n k : Nat) : Int × Int × Bool := if k < n then ((k : Int), (k : Int), false) else pairFrom n n (k - n)
def legT (n k : Nat) : Bool := match (mon n ++ sprP n n)[k]? with
  | some q => decide (legsN n k = ((q.1 : Int), (q.2 : Int), decide (q.1 ≠ q.2)))
  | none => false
theorem legT_all : ∀ n, n < 7 → ∀ k, k < 21 → k < n + n * (n - 1) / 2 → legT n k = true := by decide
theorem legs_all (n : Nat) (hn : n < 7) (k : Nat) (hk : k < 21) (h : k < n + n * (n - 1) / 2) : ∃ q : Nat × Nat, (mon n ++ sprP n n)[k]? = some q ∧ ((q.1 : Int), (q.2 : Int), decide (q.1 ≠ q.2)) = legsN n k := by
  have e := legT_all n hn k hk h
  unfold legT at e
  split at e
  · rename_i q hq
    exact ⟨q, hq, (of_decide_eq_true e).symm⟩
  · cases e
theorem legs_is {p : PD} (h : chk p = 0) (k : Nat) : legsL p k = legsN p.n1 k := by
  unfold legsL legsN
  rw [if_neg (by omega)]
  by_cases hk : k < p.n1
  · rw [if_pos (by omega), if_pos hk]
  · rw [if_neg (by omega), if_neg hk]
    congr 1
    omega
theorem list_of {p : PD} (h : chk p = 0) {k : Nat} (hk : k < cntL p) : ∃ q : Nat × Nat, (mon p.n1 ++ sprP p.n1 p.n1)[k]? = some q ∧ (legsL p k).1 = q.1 ∧ (legsL p k).2.1 = q.2 := by
  have hn := chk_zero h
  have hc : cntL p = p.n1 + p.n1 * (p.n1 - 1) / 2 := by unfold cntL; rw [if_pos h]
  have h21 : k < 21 := Nat.lt_of_lt_of_le hk (cntL_le p)
  have hk' : k < p.n1 + p.n1 * (p.n1 - 1) / 2 := hc ▸ hk
  obtain ⟨q, hq, e2⟩ := legs_all p.n1 (by omega) k h21 hk'
  refine ⟨q, hq, ?_, ?_⟩
  · rw [legs_is h, ← e2]
  · rw [legs_is h, ← e2]
/-- Which instruments are spreads. -/
theorem legs_spread {p : PD} {inst : Int} (h0 : 0 ≤ inst) (h : inst < cntL p) : (legsL p inst).2.2 = ((legsL p inst).1 != (legsL p inst).2.1) := by
  have hz := (legs_range h0 h).1
  obtain ⟨k, rfl⟩ : ∃ k : Nat, inst = k := ⟨inst.toNat, by omega⟩
  have hk : k < cntL p := by omega
  have hn := chk_zero hz
  have hc : cntL p = p.n1 + p.n1 * (p.n1 - 1) / 2 := by unfold cntL; rw [if_pos hz]
  obtain ⟨q, _, e2⟩ := legs_all p.n1 (by omega) k (Nat.lt_of_lt_of_le hk (cntL_le p)) (hc ▸ hk)
  rw [legs_is hz, ← e2]
  show decide (q.1 ≠ q.2) = ((q.1 : Int) != (q.2 : Int))
  by_cases c : q.1 = q.2
  · rw [c]; simp
  · rw [decide_eq_true c]; symm; exact bne_iff_ne.2 (by omega)
def tri : Nat → Nat
  | 0 => 0
  | d + 1 => tri d + d
theorem tri_is : ∀ n, n < 7 → tri n = n * (n - 1) / 2 := by decide
theorem pair_end (n : Nat) : ∀ d r, tri d ≤ r → pairFrom n d r = (0, 0, false) := by
  intro d
  induction d with
  | zero => intro r _; rfl
  | succ d ih =>
    intro r hr
    have hr' : tri d + d ≤ r := hr
    rw [pairFrom_succ, if_neg (by omega)]
    exact ih _ (by omega)
/-- What is no instrument has no legs. -/
theorem legs_none {p : PD} {inst : Int} (h : ¬ (0 ≤ inst ∧ inst < cntL p)) : legsL p inst = (0, 0, false) := by
  unfold legsL
  by_cases c : chk p ≠ 0 ∨ inst < 0
  · rw [if_pos c]
  · rw [if_neg c]
    have hz : chk p = 0 := by omega
    have hn := chk_zero hz
    have hc : cntL p = p.n1 + p.n1 * (p.n1 - 1) / 2 := by unfold cntL; rw [if_pos hz]
    rw [if_neg (by omega)]
    refine pair_end _ _ _ ?_
    rw [tri_is p.n1 (by omega)]
    omega
/-- A slice of pairs. -/
def Pairs (w : World) (A : Option Addr) (len : Nat) (I J : Nat → Int) : Prop :=
  ∀ k, k < len → ∃ b, A = some ⟨b, 0, none⟩ ∧ w.cell? ⟨b, k * 2, none⟩ = some (.int .i64 (I k)) ∧ w.cell? ⟨b, k * 2 + 1, none⟩ = some (.int .i64 (J k))
theorem Pairs.below {w w' : World} {A : Option Addr} {len : Nat} {I J : Nat → Int} (h : Pairs w A len I J) (hb : Below w.heap.size w w') : Pairs w' A len I J := by
  intro k hk
  obtain ⟨b, e, h1, h2⟩ := h k hk
  exact ⟨b, e, (hb.cell (p := ⟨b, k * 2, none⟩) (World.block_lt_of_cell? w _ h1)).trans h1, (hb.cell (p := ⟨b, k * 2 + 1, none⟩) (World.block_lt_of_cell? w _ h2)).trans h2⟩
theorem two_new (w : World) (x y : Value) (t : TypeId) : ∀ j u, [x, y][j]? = some u → (w.alloc (.cells #[x, y] t)).cell? ((⟨w.heap.size, 0, none⟩ : Addr).add j) = some u := by
  intro j u hj
  match j, hj with
  | 0, hj =>
    simp at hj
    subst hj
    simp [Addr.add]
  | 1, hj =>
    simp at hj
    subst hj
    simp [Addr.add]
theorem own_pairs {w : World} {base g cap : Nat} {t : TypeId} {ps : List (Nat × Nat)} {I J : Nat → Int} (h : w.ownsRow base t 2 (.slice (some ⟨g, 0, none⟩) ps.length cap) ps.length (flat ps))
    (hI : ∀ k, k < ps.length → ∃ q : Nat × Nat, ps[k]? = some q ∧ I k = q.1 ∧ J k = q.2) : Pairs w (some ⟨g, 0, none⟩) ps.length I J := by
  intro k hk
  obtain ⟨q, hq, e1, e2⟩ := hI k hk
  obtain ⟨f1, f2⟩ := flat_at hq
  refine ⟨g, rfl, ?_, ?_⟩
  · rw [World.ownsRow.cellAt h (k * 2) (by omega), f1, e1]
  · rw [World.ownsRow.cellAt h (k * 2 + 1) (by omega), f2, e2]
end Go.Proofs.Ytpfgmebajefjaaa
