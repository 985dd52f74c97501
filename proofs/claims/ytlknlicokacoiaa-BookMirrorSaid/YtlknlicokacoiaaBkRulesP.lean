/-
  Plain facts of BookRules: orders of one price stand first come first; the top is the first of its side.
-/
import Derived.Test.YtlknlicokacoiaaBkLadP
namespace Go.Proofs.Ytlknlicokacoiaa
open Go.RowKit
set_option linter.unusedVariables false
set_option linter.unusedSimpArgs false

def srt (a b : Or) : Prop := a.s < b.s ∨ (a.s = b.s ∧ bet a.s b.p a.p = false)
def inc (a b : Or) : Prop := a.s = b.s → a.p = b.p → a.i < b.i
structure Ru (i : Nat) (L : List Or) : Prop where
  low : ∀ x ∈ L, 0 ≤ x.i ∧ x.i < i
  up : L.Pairwise inc
theorem clrL_pair {R : Or → Or → Prop} {L : List Or} {s p : Int} (hR : ∀ a b, R a b → R (clr s a) (clr s b)) (h : L.Pairwise R) : (clrL L s p).Pairwise R := by
  unfold clrL
  split
  · exact List.pairwise_map.2 (h.imp (fun {a b} k => hR a b k))
  · exact h
theorem drop_far {s p : Int} : ∀ {M : List Or}, M.Pairwise srt → ∀ y ∈ M.dropWhile (ahead s p), y.s = s → y.p = p → False := by
  intro M
  induction M with
  | nil => intro _ y hy; cases hy
  | cons c M ih =>
    intro h y hy e1 e2
    rw [List.dropWhile_cons] at hy
    by_cases ha : ahead s p c = true
    · rw [if_pos ha] at hy; exact ih h.of_cons y hy e1 e2
    · rw [if_neg ha] at hy
      have ha' : ¬ c.s < s ∧ (c.s = s → bet s p c.p = true) := by
        unfold ahead at ha
        simp only [Bool.or_eq_true, decide_eq_true_eq, Bool.and_eq_true, Bool.not_eq_true', not_or, not_and] at ha
        exact ⟨ha.1, fun e => by have := ha.2 e; simpa using this⟩
      rcases List.mem_cons.1 hy with rfl | k
      · have := ha'.2 e1
        rw [e2, bet_self] at this; cases this
      · rcases (List.pairwise_cons.1 h).1 y k with h1 | ⟨h1, h2⟩
        · exact ha'.1 (by omega)
        · have h3 := ha'.2 (by omega)
          rw [h1, e1, e2] at h2
          rw [h2] at h3; cases h3
theorem Ru.add {i : Nat} {L : List Or} (h : Ru i L) (hL : LOk L) (s p n : Int) : Ru (i + 1) (addO L (i : Int) s p n).2 := by
  have keep : Ru (i + 1) L := ⟨fun x hx => by obtain ⟨a, b⟩ := h.low x hx; exact ⟨a, by push_cast; omega⟩, h.up⟩
  unfold addO
  split
  · exact keep
  · split
    · exact keep
    · split
      · exact keep
      · split
        · exact keep
        · have hM : (clrL L s p).Pairwise inc := clrL_pair (fun a b k => by intro e1 e2; rw [clr_s, clr_s] at e1; rw [clr_p, clr_p] at e2; rw [clr_i, clr_i]; exact k e1 e2) h.up
          have hS : (clrL L s p).Pairwise srt := clrL_pair (fun a b k => by unfold srt at *; rw [clr_s, clr_s, clr_p, clr_p]; exact k) hL.sort
          have hlow : ∀ x ∈ clrL L s p, 0 ≤ x.i ∧ x.i < i := fun x hx => by
            rcases mem_clrL hx with ⟨_, k⟩ | ⟨_, y, k, rfl⟩
            · exact h.low x k
            · rw [clr_i]; exact h.low y k
          refine ⟨fun x hx => ?_, ?_⟩
          · rcases mem_insO hx with rfl | k
            · exact ⟨by show (0 : Int) ≤ (i : Int); omega, by show (i : Int) < ((i + 1 : Nat) : Int); omega⟩
            · obtain ⟨a, b⟩ := hlow x k; exact ⟨a, by push_cast; omega⟩
          · show (insO L (i : Int) s p n).Pairwise inc
            unfold insO
            obtain ⟨M, eM⟩ : ∃ M, clrL L s p = M := ⟨_, rfl⟩
            rw [eM] at hM hS hlow ⊢
            have hsplit := List.takeWhile_append_dropWhile (p := ahead s p) (l := M)
            have hM2 := hM
            rw [← hsplit, List.pairwise_append] at hM2
            refine List.pairwise_append.2 ⟨hM2.1, List.pairwise_cons.2 ⟨fun y hy e1 e2 => ?_, hM2.2.1⟩, fun a ha b hb => ?_⟩
            · exact (drop_far hS y hy e1.symm e2.symm).elim
            · rcases List.mem_cons.1 hb with rfl | k
              · intro _ _
                exact (hlow a ((List.takeWhile_sublist _).subset ha)).2
              · exact hM2.2.2 a ha b k
theorem Ru.fill {i : Nat} {L : List Or} (h : Ru i L) (d n : Int) : Ru i (fillO L d n).2 := by
  unfold fillO
  split
  · exact h
  · rename_i A e C hc
    obtain ⟨hL, -, -⟩ := cutO_some hc
    subst hL
    split
    · exact h
    · have hp := List.pairwise_append.1 h.up
      have hp2 := List.pairwise_cons.1 hp.2.1
      split
      · refine ⟨fun x hx => h.low x ?_, List.pairwise_append.2 ⟨hp.1, hp2.2, fun a ha b hb => hp.2.2 a ha b (by simp [hb])⟩⟩
        rcases List.mem_append.1 hx with k | k
        · simp [k]
        · simp [k]
      · refine ⟨fun x hx => ?_, List.pairwise_append.2 ⟨hp.1, List.pairwise_cons.2 ⟨fun b hb => hp2.1 b hb, hp2.2⟩, fun a ha b hb => ?_⟩⟩
        · rcases List.mem_append.1 hx with k | k
          · exact h.low x (by simp [k])
          · rcases List.mem_cons.1 k with rfl | k
            · exact h.low e (by simp)
            · exact h.low x (by simp [k])
        · rcases List.mem_cons.1 hb with rfl | k
          · exact hp.2.2 a ha e (by simp)
          · exact hp.2.2 a ha b (by simp [k])
theorem Ru.next {i : Nat} {L : List Or} (h : Ru i L) : Ru (i + 1) L := ⟨fun x hx => by obtain ⟨a, b⟩ := h.low x hx; exact ⟨a, by push_cast; omega⟩, h.up⟩
/-- Orders of one side and price: their IDs rise. -/
theorem Ru.at_up {i : Nat} {L : List Or} (h : Ru i L) (s p : Int) : (atO L s p).Pairwise (fun a b => a.i < b.i) := by
  have h1 : (atO L s p).Pairwise inc := h.up.sublist List.filter_sublist
  have hm : ∀ x ∈ atO L s p, x.s = s ∧ x.p = p := fun x hx => by simpa using (List.mem_filter.1 hx).2
  refine (List.Pairwise.imp_of_mem (fun {a b} ha hb k => ?_) h1)
  obtain ⟨a1, a2⟩ := hm a ha
  obtain ⟨b1, b2⟩ := hm b hb
  exact k (a1.trans b1.symm) (a2.trans b2.symm)
/-- The top of a side is the first of its first level. -/
theorem top_first {L : List Or} (h : LOk L) {s : Int} {x : Or} (hx : x ∈ L) (hs : x.s = s) (ht : x.t = true) : ∃ y l, ladO L s = y :: l ∧ y.p = x.p ∧ ∃ r, atO L s x.p = x :: r ∧ ∀ z ∈ r, z.t = false := by
  obtain ⟨A, C, rfl⟩ := List.append_of_mem hx
  have hf := List.pairwise_append.1 h.flag
  have hA : ∀ a ∈ A, a.s ≠ s := fun a ha e => by
    have := hf.2.2 a ha x (by simp) (e.trans hs.symm)
    rw [this] at ht; cases ht
  have hfind : (A ++ x :: C).find? (fun x => decide (x.s = s)) = some x := by
    rw [List.find?_append]
    rw [List.find?_eq_none.2 (fun a ha => by simpa using hA a ha), List.find?_cons, decide_eq_true hs]
    rfl
  have hl := lad_head s (A ++ x :: C) []
  simp only [List.head?_nil, Option.map_none, Option.none_or] at hl
  change (ladO (A ++ x :: C) s).head?.map Lv.p = _ at hl
  rw [hfind] at hl
  cases hg : ladO (A ++ x :: C) s with
  | nil => rw [hg] at hl; cases hl
  | cons y l =>
    rw [hg] at hl
    have hyp : y.p = x.p := by simpa using hl
    refine ⟨y, l, rfl, hyp, C.filter (fun z => decide (z.s = s) && decide (z.p = x.p)), ?_, fun z hz => ?_⟩
    · unfold atO
      rw [List.filter_append, List.filter_eq_nil_iff.2 (fun a ha => by simp [hA a ha]), List.nil_append, List.filter_cons, if_pos (by simp [hs])]
    · have hz' := List.mem_filter.1 hz
      have hzs : z.s = s ∧ z.p = x.p := by simpa using hz'.2
      exact (List.pairwise_cons.1 hf.2.1).1 z hz'.1 (hs.trans hzs.1.symm)
end Go.Proofs.Ytlknlicokacoiaa
