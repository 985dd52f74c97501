/-
  The legs of implied quotes: plain lists, nothing of the program.
-/
import Derived.Test.YtdeofifidjbolaaImQuotes
import Derived.Test.YtdeofifidjbolaaIpQuote
namespace Go.Proofs.Ytdeofifidjbolaa
open Go.RowKit
set_option linter.unusedVariables false
set_option linter.unusedSimpArgs false

/-- Two legs: an instrument and a side each. -/
structure Lg where
  i1 : Int
  s1 : Int
  i2 : Int
  s2 : Int
def fLg : Fmt Lg := ⟨fun x => [.int .i64 x.i1, .int .i64 x.s1, .int .i64 x.i2, .int .i64 x.s2], 4, fun _ => rfl, by decide, fun x u hu => by
  simp only [List.mem_cons, List.not_mem_nil, or_false] at hu
  rcases hu with rfl | rfl | rfl | rfl <;> rfl⟩
theorem HV.atG {w : World} {A : Option Addr} {n : Nat} {l : List Lg} (h : HV fLg w A n l) {j : Nat} {x : Lg} (hx : l[j]? = some x) : ∃ b off, A = some ⟨b, off, none⟩ ∧ w.cell? ⟨b, off + j * 4, none⟩ = some (.int .i64 x.i1) ∧ w.cell? ⟨b, off + j * 4 + 1, none⟩ = some (.int .i64 x.s1) ∧ w.cell? ⟨b, off + j * 4 + 2, none⟩ = some (.int .i64 x.i2) ∧ w.cell? ⟨b, off + j * 4 + 3, none⟩ = some (.int .i64 x.s2) := by
  obtain ⟨b, off, e, hc⟩ := h.2 j x hx
  exact ⟨b, off, e, hc 0 _ rfl, hc 1 _ rfl, hc 2 _ rfl, hc 3 _ rfl⟩
theorem g_lit (w : World) (a sa b sb : Int) (T : TypeId) : HV fLg (w.alloc (.cells #[.int .i64 a, .int .i64 sa, .int .i64 b, .int .i64 sb] T)) (some ⟨w.heap.size, 0, none⟩) 1 [⟨a, sa, b, sb⟩] := by
  refine ⟨rfl, fun j x hx => ⟨w.heap.size, 0, rfl, fun m u hu => ?_⟩⟩
  have hj : j = 0 := by have := (List.getElem?_eq_some_iff.1 hx).1; simpa using this
  subst hj
  have hx : (⟨a, sa, b, sb⟩ : Lg) = x := by simpa using hx
  subst hx
  rw [show 0 + 0 * fLg.k + m = m by omega, Lib.cell_of_heap (heap_alloc_new w _), ← hu, ← Array.getElem?_toList]
  rfl
/-- The legs of the quotes with later months, from month m on (d of them); with earlier ones; all of them. -/
def laterG (p : PD) (inst side : Int) : Nat → Int → List Lg
  | 0, _ => []
  | d + 1, m => ⟨(spreadI p inst m).1, side, m, side⟩ :: laterG p inst side d (m + 1)
def earlierG (p : PD) (inst side : Int) : Nat → Int → List Lg
  | 0, _ => []
  | d + 1, m => ⟨(spreadI p m inst).1, 3 - side, m, side⟩ :: earlierG p inst side d (m + 1)
def pairsG (p : PD) (inst side : Int) : List Lg :=
  if (legsL p inst).2.2 = true then [⟨(legsL p inst).1, side, (legsL p inst).2.1, 3 - side⟩]
  else laterG p inst side (p.n1 - (inst.toNat + 1)) (inst + 1) ++ earlierG p inst side inst.toNat 0
theorem laterG_snoc (p : PD) (inst side : Int) (d : Nat) (m : Int) : laterG p inst side (d + 1) m = laterG p inst side d m ++ [⟨(spreadI p inst (m + d)).1, side, m + d, side⟩] := by
  induction d generalizing m with
  | zero => simp [laterG]
  | succ d ih =>
    rw [laterG, ih (m + 1), laterG, List.cons_append, show m + 1 + (d : Int) = m + ((d + 1 : Nat) : Int) by omega]
theorem earlierG_snoc (p : PD) (inst side : Int) (d : Nat) (m : Int) : earlierG p inst side (d + 1) m = earlierG p inst side d m ++ [⟨(spreadI p (m + d) inst).1, 3 - side, m + d, side⟩] := by
  induction d generalizing m with
  | zero => simp [earlierG]
  | succ d ih =>
    rw [earlierG, ih (m + 1), earlierG, List.cons_append, show m + 1 + (d : Int) = m + ((d + 1 : Nat) : Int) by omega]
theorem laterG_len (p : PD) (inst side : Int) (d : Nat) (m : Int) : (laterG p inst side d m).length = d := by
  induction d generalizing m with
  | zero => rfl
  | succ d ih => rw [laterG, List.length_cons, ih]
theorem earlierG_len (p : PD) (inst side : Int) (d : Nat) (m : Int) : (earlierG p inst side d m).length = d := by
  induction d generalizing m with
  | zero => rfl
  | succ d ih => rw [earlierG, List.length_cons, ih]
/-- The quote that two legs give, as a list. -/
def quoteL (T : List Tp) (side : Int) (x : Lg) : List Qt := (legsO T x.i1 x.s1 x.i2 x.s2 side).toList
theorem later_flat (p : PD) (T : List Tp) (inst side : Int) (d : Nat) (m : Int) : (laterG p inst side d m).flatMap (quoteL T side) = laterQ p T inst side d m := by
  induction d generalizing m with
  | zero => rfl
  | succ d ih =>
    rw [laterG, List.flatMap_cons, ih, laterQ]
    congr 1
    show (joinO _ _ _ _ _ _ (howV side side side)).toList = (joinO _ _ _ _ _ _ 1).toList
    rw [show howV side side side = 1 from if_pos rfl]
theorem earlier_flat (p : PD) (T : List Tp) (inst side : Int) (d : Nat) (m : Int) : (earlierG p inst side d m).flatMap (quoteL T side) = earlierQ p T inst side d m := by
  induction d generalizing m with
  | zero => rfl
  | succ d ih =>
    rw [earlierG, List.flatMap_cons, ih, earlierQ]
    congr 1
    show (joinO _ _ _ _ _ _ (howV (3 - side) side side)).toList = (joinO _ _ _ _ _ _ 0).toList
    rw [show howV (3 - side) side side = 0 by unfold howV; rw [if_neg (by omega), if_neg (by omega)]]
theorem all_flat {p : PD} {T : List Tp} {inst side : Int} (h : askB p T.length inst side = true) : allQ p T inst side = (pairsG p inst side).flatMap (quoteL T side) := by
  unfold allQ pairsG
  rw [if_pos h]
  split
  · rw [List.flatMap_cons, List.flatMap_nil, List.append_nil]
    show _ = (joinO _ _ _ _ _ _ (howV side (3 - side) side)).toList
    rw [show howV side (3 - side) side = -1 by unfold howV; rw [if_neg (by omega), if_pos rfl]]
    rfl
  · rw [List.flatMap_append, later_flat, earlier_flat]
/-- Legs that there are: instruments of a product, and sides. -/
def LgIn (n : Nat) (x : Lg) : Prop := ∃ a ka b kb : Nat, x = ⟨(a : Int), (ka : Int) + 1, (b : Int), (kb : Int) + 1⟩ ∧ a < n ∧ ka < 2 ∧ b < n ∧ kb < 2
theorem laterG_in {p : PD} (hz : chk p = 0) (inst ks : Nat) (hk : ks < 2) : ∀ (d m : Nat), m + d ≤ p.n1 → ∀ x ∈ laterG p (inst : Int) ((ks : Int) + 1) d (m : Int), LgIn (cntL p) x := by
  have hc : p.n1 ≤ cntL p := by unfold cntL; rw [if_pos hz]; omega
  intro d
  induction d with
  | zero => intro m _ x hx; cases hx
  | succ d ih =>
    intro m hm x hx
    rw [laterG] at hx
    rcases List.mem_cons.1 hx with rfl | hx
    · obtain ⟨s, e, hs⟩ := spreadI_range hz (inst : Int) (m : Int)
      exact ⟨s, ks, m, ks, by rw [e], hs, hk, by omega, hk⟩
    · exact ih (m + 1) (by omega) x (by rw [show ((m + 1 : Nat) : Int) = (m : Int) + 1 by omega]; exact hx)
theorem earlierG_in {p : PD} (hz : chk p = 0) (inst ks : Nat) (hk : ks < 2) : ∀ (d m : Nat), m + d ≤ p.n1 → ∀ x ∈ earlierG p (inst : Int) ((ks : Int) + 1) d (m : Int), LgIn (cntL p) x := by
  have hc : p.n1 ≤ cntL p := by unfold cntL; rw [if_pos hz]; omega
  intro d
  induction d with
  | zero => intro m _ x hx; cases hx
  | succ d ih =>
    intro m hm x hx
    rw [earlierG] at hx
    rcases List.mem_cons.1 hx with rfl | hx
    · obtain ⟨s, e, hs⟩ := spreadI_range hz (m : Int) (inst : Int)
      exact ⟨s, 1 - ks, m, ks, by rw [e, show 3 - ((ks : Int) + 1) = ((1 - ks : Nat) : Int) + 1 by omega], hs, by omega, by omega, hk⟩
    · exact ih (m + 1) (by omega) x (by rw [show ((m + 1 : Nat) : Int) = (m : Int) + 1 by omega]; exact hx)
theorem pairsG_in {p : PD} {inst : Nat} (hi : inst < cntL p) {ks : Nat} (hk : ks < 2) : ∀ x ∈ pairsG p (inst : Int) ((ks : Int) + 1), LgIn (cntL p) x := by
  obtain ⟨hz, i, j, hl, h1, h2⟩ := legs_range (p := p) (inst := (inst : Int)) (by omega) (by omega)
  have hc : p.n1 ≤ cntL p := by unfold cntL; rw [if_pos hz]; omega
  intro x hx
  unfold pairsG at hx
  rw [hl] at hx
  simp only [decide_eq_true_eq] at hx
  split at hx
  · simp only [List.mem_cons, List.not_mem_nil, or_false] at hx
    subst hx
    exact ⟨i, ks, j, 1 - ks, by rw [show 3 - ((ks : Int) + 1) = ((1 - ks : Nat) : Int) + 1 by omega], by omega, hk, by omega, by omega⟩
  · next hlt =>
    rw [Int.toNat_natCast] at hx
    rcases List.mem_append.1 hx with hx | hx
    · exact laterG_in hz inst ks hk (p.n1 - (inst + 1)) (inst + 1) (by omega) x (by rw [show ((inst + 1 : Nat) : Int) = (inst : Int) + 1 by omega]; exact hx)
    · exact earlierG_in hz inst ks hk inst 0 (by omega) x hx
theorem flat_next {α β : Type} {L : List α} {k : Nat} {x : α} (f : α → List β) (h : L[k]? = some x) : (L.take (k + 1)).flatMap f = (L.take k).flatMap f ++ f x := by
  rw [List.take_add_one, h, Option.toList_some, List.flatMap_append, List.flatMap_cons, List.flatMap_nil, List.append_nil]
theorem pairsG_len {p : PD} {inst : Nat} (hi : inst < cntL p) (side : Int) : (pairsG p (inst : Int) side).length ≤ 100 := by
  obtain ⟨hz, i, j, hl, h1, h2⟩ := legs_range (p := p) (inst := (inst : Int)) (by omega) (by omega)
  have h6 := chk_zero hz
  have hcl := cntL_le p
  unfold pairsG
  split
  · simp
  · rw [List.length_append, laterG_len, earlierG_len, Int.toNat_natCast]; omega
theorem quoteL_len (T : List Tp) (side : Int) (x : Lg) : (quoteL T side x).length ≤ 1 := by
  unfold quoteL
  cases legsO T x.i1 x.s1 x.i2 x.s2 side <;> simp
theorem flat_len1 {T : List Tp} {side : Int} (L : List Lg) : (L.flatMap (quoteL T side)).length ≤ L.length := by
  induction L with
  | nil => exact Nat.le_refl _
  | cons x L ih =>
    have := quoteL_len T side x
    rw [List.flatMap_cons, List.length_append, List.length_cons]; omega
end Go.Proofs.Ytdeofifidjbolaa
