/-
  Ladders and levels of the orders told, in plain lists.
-/
import Derived.Test.YtlknlicokacoiaaBkSwap
import Derived.Test.YtlknlicokacoiaaBkLevel
namespace Go.Proofs.Ytlknlicokacoiaa
open Go.RowKit
set_option linter.unusedVariables false
set_option linter.unusedSimpArgs false

theorem lad_skip {s : Int} : ∀ {L : List Or} {out : List Lv}, (∀ x ∈ L, x.s ≠ s) → L.foldl (ladStep s) out = out := by
  intro L
  induction L with
  | nil => intro out _; rfl
  | cons x L ih =>
    intro out h
    rw [List.foldl_cons]
    have : ladStep s out x = out := by unfold ladStep; rw [if_pos (h x (by simp))]
    rw [this]; exact ih (fun y hy => h y (by simp [hy]))
theorem lad_more (s p : Int) (out : List Lv) : ∀ (l : List En) (n k : Int), (l.map (ordE s p)).foldl (ladStep s) (out ++ [⟨p, n, k⟩]) = out ++ [⟨p, (l.map En.n).foldl (· + ·) n, k + l.length⟩] := by
  intro l
  induction l with
  | nil => intro n k; simp
  | cons e l ih =>
    intro n k
    rw [List.map_cons, List.foldl_cons]
    have : ladStep s (out ++ [⟨p, n, k⟩]) (ordE s p e) = out ++ [⟨p, n + e.n, k + 1⟩] := by
      unfold ladStep
      rw [if_neg (by simp [ordE])]
      simp [ordE]
    rw [this, ih, List.map_cons, List.foldl_cons, List.length_cons]
    congr 3
    push_cast; omega
theorem lad_row {st : St} {s : Int} {r : Int × Nat} {out : List Lv} (hn : lq st r.2 ≠ []) (ho : ∀ y, out.getLast? = some y → y.p ≠ r.1) : (rowO st s r).foldl (ladStep s) out = out ++ [lvR st r] := by
  obtain ⟨e, l, hl⟩ := List.exists_cons_of_ne_nil hn
  unfold rowO
  rw [hl, List.map_cons, List.foldl_cons]
  have : ladStep s out (ordE s r.1 e) = out ++ [⟨r.1, e.n, 1⟩] := by
    unfold ladStep
    rw [if_neg (by simp [ordE])]
    cases hg : out.getLast? with
    | none => rfl
    | some y => simp only; rw [if_neg (show ¬ y.p = (ordE s r.1 e).p from ho y hg)]; rfl
  rw [this, lad_more]
  unfold lvR
  rw [hl]
  congr 3
  · unfold sumN; rw [List.map_cons, List.foldl_cons, Int.zero_add]
  · rw [List.length_cons]; push_cast; omega
theorem lad_side {st : St} {s : Int} : ∀ {R : List (Int × Nat)} {out : List Lv}, (∀ r ∈ R, lq st r.2 ≠ []) → R.Pairwise (fun a b => bet s a.1 b.1 = true) → (∀ y, out.getLast? = some y → ∀ r ∈ R, y.p ≠ r.1) → (sideO st s R).foldl (ladStep s) out = out ++ R.map (lvR st) := by
  intro R
  induction R with
  | nil => intro out _ _ _; simp [sideO]
  | cons r R ih =>
    intro out h1 h2 h3
    rw [List.pairwise_cons] at h2
    rw [sideO, List.foldl_append, lad_row (h1 r (by simp)) (fun y hy => h3 y hy r (by simp))]
    rw [ih (fun x hx => h1 x (by simp [hx])) h2.2 (fun y hy x hx => ?_), List.map_cons, List.append_assoc, List.singleton_append]
    rw [List.getLast?_concat] at hy
    injection hy with hy
    rw [← hy]
    exact bet_ne (h2.1 x hx)
theorem CInv.lad {c : Cs} (h : CInv noEx c) {s : Nat} (hs : s = 1 ∨ s = 2) : ladO c.abs (s : Int) = (c.R s).map (lvR c.st) := by
  unfold ladO
  have hf : ∀ s r, r ∈ c.R s → lq c.st r.2 ≠ [] := fun s r hr => (h.full s r hr).resolve_left (fun f => f)
  unfold Cs.abs
  rw [List.foldl_append]
  have l1 : (sideO c.st 1 (c.R 1)).foldl (ladStep 1) [] = [] ++ (c.R 1).map (lvR c.st) := lad_side (hf 1) (h.sort 1) (fun y hy => by simp at hy)
  have l2 : (sideO c.st 2 (c.R 2)).foldl (ladStep 2) [] = [] ++ (c.R 2).map (lvR c.st) := lad_side (hf 2) (h.sort 2) (fun y hy => by simp at hy)
  rcases hs with rfl | rfl
  · show List.foldl (ladStep 1) (List.foldl (ladStep 1) [] (sideO c.st 1 (c.R 1))) (sideO c.st 2 (c.R 2)) = _
    rw [l1, List.nil_append]
    exact lad_skip (fun x hx => by
      obtain ⟨r, hr, e, he, rfl⟩ := mem_sideO.1 hx
      show ¬ (2 : Int) = 1; omega)
  · show List.foldl (ladStep 2) (List.foldl (ladStep 2) [] (sideO c.st 1 (c.R 1))) (sideO c.st 2 (c.R 2)) = _
    rw [lad_skip (s := 2) (L := sideO c.st 1 (c.R 1)) (fun x hx => by
      obtain ⟨r, hr, e, he, rfl⟩ := mem_sideO.1 hx
      show ¬ (1 : Int) = 2; omega), l2, List.nil_append]
theorem abs_side {c : Cs} {x : Or} (hx : x ∈ c.abs) : x.s = 1 ∨ x.s = 2 := by
  obtain ⟨s, r, e, hs, hr, he, rfl⟩ := mem_abs hx
  show (s : Int) = 1 ∨ (s : Int) = 2
  omega
theorem CInv.lad_no {c : Cs} {s : Int} (hs : sideB s = false) : ladO c.abs s = [] := lad_skip (fun x hx e => by
  have := abs_side hx
  unfold sideB at hs
  have h2 := of_decide_eq_false hs
  omega)
theorem CInv.at_no {c : Cs} {s p : Int} (hs : sideB s = false) : atO c.abs s p = [] := by
  unfold atO
  rw [List.filter_eq_nil_iff]
  intro x hx
  have := abs_side hx
  unfold sideB at hs
  have h2 := of_decide_eq_false hs
  simp only [Bool.and_eq_true, decide_eq_true_eq, not_and]
  omega
theorem at_side {st : St} {s p : Int} {R : List (Int × Nat)} (h : ∀ r ∈ R, r.1 ≠ p) : (sideO st s R).filter (fun x => decide (x.s = s) && decide (x.p = p)) = [] := by
  rw [List.filter_eq_nil_iff]
  intro x hx
  obtain ⟨r, hr, e, he, rfl⟩ := mem_sideO.1 hx
  have := h r hr
  simp [ordE, this]
theorem at_off {L : List Or} {s p : Int} (h : ∀ x ∈ L, x.s ≠ s) : L.filter (fun x => decide (x.s = s) && decide (x.p = p)) = [] := by
  rw [List.filter_eq_nil_iff]
  intro x hx
  have := h x hx
  simp [this]
theorem CInv.at_abs {c : Cs} {s : Nat} (hs : s = 1 ∨ s = 2) (p : Int) : atO c.abs (s : Int) p = (sideO c.st s (c.R s)).filter (fun x => decide (x.s = (s : Int)) && decide (x.p = p)) := by
  unfold atO Cs.abs
  rw [List.filter_append]
  rcases hs with rfl | rfl
  · rw [at_off (L := sideO c.st 2 (c.R 2)) (s := ((1 : Nat) : Int)) (fun x hx => by
      obtain ⟨r, hr, e, he, rfl⟩ := mem_sideO.1 hx
      show ¬ (2 : Int) = ((1 : Nat) : Int); omega), List.append_nil]; rfl
  · rw [at_off (L := sideO c.st 1 (c.R 1)) (s := ((2 : Nat) : Int)) (fun x hx => by
      obtain ⟨r, hr, e, he, rfl⟩ := mem_sideO.1 hx
      show ¬ (1 : Int) = ((2 : Nat) : Int); omega), List.nil_append]; rfl
theorem CInv.at_found {c : Cs} (h : CInv noEx c) {s : Nat} (hs : s = 1 ∨ s = 2) {p : Int} {q : Nat} {X Y : List (Int × Nat)} (hR : c.R s = X ++ (p, q) :: Y) : atO c.abs (s : Int) p = rowO c.st s (p, q) := by
  obtain ⟨-, -, hX, hY⟩ := bet_rows (h.sort s) hR
  rw [CInv.at_abs hs, hR, sideO_app, sideO, List.filter_append, List.filter_append, at_side (fun r hr => bet_ne (hX r hr)), at_side (fun r hr e => bet_ne (hY r hr) e.symm), List.append_nil, List.nil_append]
  rw [List.filter_eq_self]
  intro x hx
  obtain ⟨e, he, rfl⟩ := List.mem_map.1 hx
  simp [ordE]
theorem CInv.at_none {c : Cs} (h : CInv noEx c) {s : Nat} (hs : s = 1 ∨ s = 2) {p : Int} (hf : foundB (s : Int) p (c.R s) = false) : atO c.abs (s : Int) p = [] := by
  obtain ⟨X, Y, hR, -, hX, hY⟩ := place_not (h.sort s) hf
  rw [CInv.at_abs hs, at_side (fun r hr => ?_)]
  rw [hR] at hr
  rcases List.mem_append.1 hr with k | k
  · exact bet_ne (hX r k)
  · exact fun e => bet_ne (hY r k) e.symm
end Go.Proofs.Ytlknlicokacoiaa
