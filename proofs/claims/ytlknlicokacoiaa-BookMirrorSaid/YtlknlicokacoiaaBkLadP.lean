/-
  Plain facts: a side's ladder is its prices, each better than the next, each with its orders' sum and number.
-/
import Derived.Test.YtlknlicokacoiaaBkTops0
namespace Go.Proofs.Ytlknlicokacoiaa
open Go.RowKit
set_option linter.unusedVariables false
set_option linter.unusedSimpArgs false

def sumO : List Or → Int
  | [] => 0
  | x :: l => x.n + sumO l
theorem sumO_app (A C : List Or) : sumO (A ++ C) = sumO A + sumO C := by
  induction A with
  | nil => simp [sumO]
  | cons x A ih => rw [List.cons_append, sumO, sumO, ih]; omega
theorem atO_snoc (K : List Or) (x : Or) (s p : Int) : atO (K ++ [x]) s p = atO K s p ++ (if x.s = s ∧ x.p = p then [x] else []) := by
  unfold atO
  rw [List.filter_append]
  congr 1
  by_cases h1 : x.s = s <;> by_cases h2 : x.p = p <;> simp [List.filter, h1, h2]
structure LadIs (s : Int) (K : List Or) (out : List Lv) : Prop where
  sorted : out.Pairwise (fun a b => bet s a.p b.p = true)
  each : ∀ y ∈ out, y.n = sumO (atO K s y.p) ∧ y.c = ((atO K s y.p).length : Nat) ∧ atO K s y.p ≠ []
  all : ∀ x ∈ K, x.s = s → ∃ y ∈ out, y.p = x.p
  many : ((K.filter (fun x => decide (x.s = s))).length : Int) = (out.map Lv.c).sum
theorem bet_total {s a b : Int} (h : bet s a b = false) (hn : a ≠ b) : bet s b a = true := by
  cases k : bet s b a with
  | true => rfl
  | false => exact absurd (bet_eq h k) hn
theorem LadIs.step {s : Int} {K : List Or} {out : List Lv} {x : Or} (h : LadIs s K out) (hx : ∀ y ∈ K, y.s = s → x.s = s → bet s x.p y.p = false) : LadIs s (K ++ [x]) (ladStep s out x) := by
  by_cases hs : x.s = s
  · rcases List.eq_nil_or_concat out with rfl | ⟨o, y, ho⟩
    · have hno : ∀ z ∈ K, z.s ≠ s := fun z hz e => by obtain ⟨y, hy, _⟩ := h.all z hz e; cases hy
      have hat : ∀ p, atO K s p = [] := fun p => List.filter_eq_nil_iff.2 (fun z hz => by simp [hno z hz])
      have e1 : ladStep s [] x = [⟨x.p, x.n, 1⟩] := by unfold ladStep; rw [if_neg (by simpa using hs)]; rfl
      rw [e1]
      refine ⟨List.pairwise_singleton _ _, fun y hy => ?_, fun z hz ez => ?_, ?_⟩
      · rw [List.mem_singleton.1 hy]
        simp only
        rw [atO_snoc, hat, if_pos ⟨hs, rfl⟩]
        simp [sumO]
      · rcases List.mem_append.1 hz with k | k
        · exact absurd ez (hno z k)
        · rw [List.mem_singleton.1 k]; exact ⟨_, List.mem_singleton.2 rfl, rfl⟩
      · have h0 : K.filter (fun x => decide (x.s = s)) = [] := List.filter_eq_nil_iff.2 (fun z hz => by simp [hno z hz])
        rw [List.filter_append, h0]
        simp [hs]
    · have ho' : out = o ++ [y] := by simpa using ho
      subst ho'
      have hy := h.each y (by simp)
      obtain ⟨z, hz⟩ := List.exists_mem_of_ne_nil _ hy.2.2
      have hzm := List.mem_filter.1 hz
      have hzs : z.s = s ∧ z.p = y.p := by simpa using hzm.2
      have hbt : bet s x.p y.p = false := by rw [← hzs.2]; exact hx z hzm.1 hzs.1 hs
      have hso := List.pairwise_append.1 h.sorted
      by_cases hp : y.p = x.p
      · have e1 : ladStep s (o ++ [y]) x = o ++ [⟨y.p, y.n + x.n, y.c + 1⟩] := by
          unfold ladStep
          rw [if_neg (by simpa using hs), List.getLast?_concat]
          simp only
          rw [if_pos hp, List.dropLast_concat]
        rw [e1]
        refine ⟨List.pairwise_append.2 ⟨hso.1, List.pairwise_singleton _ _, fun a ha b hb => ?_⟩, fun a ha => ?_, fun a ha ea => ?_, ?_⟩
        · rw [List.mem_singleton.1 hb]; exact hso.2.2 a ha y (by simp)
        · rcases List.mem_append.1 ha with k | k
          · have hne : x.p ≠ a.p := fun e => by
              have := hso.2.2 a k y (by simp)
              rw [← e, ← hp, bet_self] at this; cases this
            rw [atO_snoc, if_neg (fun c => hne c.2), List.append_nil]
            exact h.each a (by simp [k])
          · rw [List.mem_singleton.1 k]
            simp only
            rw [atO_snoc, if_pos ⟨hs, hp.symm⟩, sumO_app]
            refine ⟨?_, ?_, by simp⟩
            · rw [hy.1]; simp [sumO]
            · rw [hy.2.1, List.length_append]; simp
        · rcases List.mem_append.1 ha with k | k
          · obtain ⟨b, hb, eb⟩ := h.all a k ea
            rcases List.mem_append.1 hb with m | m
            · exact ⟨b, by simp [m], eb⟩
            · rw [List.mem_singleton.1 m] at eb
              exact ⟨_, List.mem_append.2 (.inr (List.mem_singleton.2 rfl)), eb⟩
          · rw [List.mem_singleton.1 k]
            exact ⟨_, List.mem_append.2 (.inr (List.mem_singleton.2 rfl)), hp⟩
        · have := h.many
          rw [List.filter_append, List.length_append]
          simp [hs] at this ⊢
          omega
      · have e1 : ladStep s (o ++ [y]) x = (o ++ [y]) ++ [⟨x.p, x.n, 1⟩] := by
          unfold ladStep
          rw [if_neg (by simpa using hs), List.getLast?_concat]
          simp only
          rw [if_neg hp]
        have hyx : bet s y.p x.p = true := bet_total hbt (fun e => hp e.symm)
        have hax : ∀ a ∈ o ++ [y], bet s a.p x.p = true := fun a ha => by
          rcases List.mem_append.1 ha with k | k
          · exact bet_trans (hso.2.2 a k y (by simp)) hyx
          · rw [List.mem_singleton.1 k]; exact hyx
        have hno : atO K s x.p = [] := List.filter_eq_nil_iff.2 (fun z hz => by
          intro c
          have c' : z.s = s ∧ z.p = x.p := by simpa using c
          obtain ⟨b, hb, eb⟩ := h.all z hz c'.1
          have := hax b hb
          rw [eb, c'.2, bet_self] at this; cases this)
        rw [e1]
        refine ⟨List.pairwise_append.2 ⟨h.sorted, List.pairwise_singleton _ _, fun a ha b hb => ?_⟩, fun a ha => ?_, fun a ha ea => ?_, ?_⟩
        · rw [List.mem_singleton.1 hb]; exact hax a ha
        · rcases List.mem_append.1 ha with k | k
          · have hne : x.p ≠ a.p := fun e => by
              have := hax a k
              rw [← e, bet_self] at this; cases this
            rw [atO_snoc, if_neg (fun c => hne c.2), List.append_nil]
            exact h.each a k
          · rw [List.mem_singleton.1 k]
            simp only
            rw [atO_snoc, hno, if_pos ⟨hs, rfl⟩]
            simp [sumO]
        · rcases List.mem_append.1 ha with k | k
          · obtain ⟨b, hb, eb⟩ := h.all a k ea
            exact ⟨b, List.mem_append.2 (.inl hb), eb⟩
          · rw [List.mem_singleton.1 k]
            exact ⟨_, List.mem_append.2 (.inr (List.mem_singleton.2 rfl)), rfl⟩
        · have := h.many
          rw [List.filter_append, List.length_append]
          simp [hs] at this ⊢
          omega
  · have e1 : ladStep s out x = out := by unfold ladStep; rw [if_pos (by simpa using hs)]
    rw [e1]
    refine ⟨h.sorted, fun y hy => ?_, fun z hz ez => ?_, ?_⟩
    · rw [atO_snoc, if_neg (fun c => hs c.1), List.append_nil]; exact h.each y hy
    · rcases List.mem_append.1 hz with k | k
      · exact h.all z k ez
      · rw [List.mem_singleton.1 k] at ez; exact absurd ez hs
    · have := h.many
      rw [List.filter_append, List.length_append]
      simp [hs] at this ⊢
      exact this
theorem lad_is_from {s : Int} : ∀ (K2 K1 : List Or) (out : List Lv), LadIs s K1 out → (K1 ++ K2).Pairwise (fun a b => a.s < b.s ∨ (a.s = b.s ∧ bet a.s b.p a.p = false)) → LadIs s (K1 ++ K2) (K2.foldl (ladStep s) out) := by
  intro K2
  induction K2 with
  | nil => intro K1 out h _; rw [List.append_nil]; exact h
  | cons x K2 ih =>
    intro K1 out h hs
    rw [List.foldl_cons]
    have e : K1 ++ x :: K2 = (K1 ++ [x]) ++ K2 := by simp
    rw [e] at hs ⊢
    refine ih _ _ (h.step (fun y hy e1 e2 => ?_)) hs
    have h1 := (List.pairwise_append.1 (List.pairwise_append.1 hs).1).2.2 y hy x (by simp)
    rcases h1 with h1 | ⟨_, h1⟩
    · omega
    · rw [e1] at h1; exact h1
theorem lad_is {L : List Or} (h : LOk L) (s : Int) : LadIs s L (ladO L s) := by
  have := lad_is_from (s := s) L [] [] ⟨List.Pairwise.nil, fun y hy => (by cases hy), fun x hx => (by cases hx), rfl⟩ (by simpa using h.sort)
  exact this
end Go.Proofs.Ytlknlicokacoiaa
