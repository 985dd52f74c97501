/-
  Plain facts on reports' texts: they tell their reports apart.
-/
import Derived.Test.YtjhfgajhmenboaaDoorRepTextP
namespace Go.Proofs.YtjhfgajhmenboaaDoor
open Go.RowKit
set_option linter.unusedVariables false
set_option linter.unusedSimpArgs false

theorem byte_toNat (n : Nat) (h : n < 256) : (UInt8.ofNat n).toNat = n := by simp [UInt8.toNat_ofNat', Nat.mod_eq_of_lt h]
/-- The digits of a number: none is a blank, none a stroke; there is one; they tell the number. -/
theorem dec_digit (u : Nat) : (∀ b ∈ Lib.decDigits u, 48 ≤ b.toNat ∧ b.toNat ≤ 57) ∧ Lib.decDigits u ≠ [] ∧ (Lib.decDigits u).foldl (fun n b => 10 * n + (b.toNat - 48)) 0 = u := by
  induction u using Nat.strongRecOn with
  | _ u ih =>
    by_cases h : u < 10
    · rw [Lib.decDigits_one h]
      refine ⟨?_, by simp, ?_⟩
      · intro b hb
        rw [List.mem_singleton.1 hb]
        have : (UInt8.ofNat (48 + u)).toNat = 48 + u := byte_toNat _ (by omega)
        omega
      · have : (UInt8.ofNat (48 + u)).toNat = 48 + u := byte_toNat _ (by omega)
        simp only [List.foldl_cons, List.foldl_nil, this]
        omega
    · have e : Lib.decDigits u = Lib.decDigits (u / 10) ++ [UInt8.ofNat (48 + u % 10)] := by rw [Lib.decDigits, dif_neg h]
      obtain ⟨h1, h2, h3⟩ := ih (u / 10) (by omega)
      have hl : (UInt8.ofNat (48 + u % 10)).toNat = 48 + u % 10 := byte_toNat _ (by omega)
      rw [e]
      refine ⟨?_, by simp, ?_⟩
      · intro b hb
        rcases List.mem_append.1 hb with hb | hb
        · exact h1 b hb
        · rw [List.mem_singleton.1 hb, hl]; omega
      · rw [List.foldl_append, h3]
        simp only [List.foldl_cons, List.foldl_nil, hl]
        omega
theorem dec_inj {u v : Nat} (h : Lib.decDigits u = Lib.decDigits v) : u = v := by
  rw [← (dec_digit u).2.2, ← (dec_digit v).2.2, h]
theorem itoa_ways (n : Int) : (∃ u : Nat, n = (u : Int) ∧ Lib.itoa n = Lib.decDigits u) ∨ (∃ u : Nat, 1 ≤ u ∧ n = -(u : Int) ∧ Lib.itoa n = 45 :: Lib.decDigits u) := by
  by_cases hn : n < 0
  · obtain ⟨u, rfl⟩ : ∃ u : Nat, n = -(u : Int) := ⟨n.natAbs, by omega⟩
    exact .inr ⟨u, by omega, rfl, Lib.itoa_neg u (by omega)⟩
  · obtain ⟨u, rfl⟩ : ∃ u : Nat, n = (u : Int) := ⟨n.toNat, by omega⟩
    exact .inl ⟨u, rfl, Lib.itoa_nonneg u⟩
theorem dec_head (u : Nat) (t : List UInt8) : Lib.decDigits u ≠ 45 :: t := by
  intro e
  have := (dec_digit u).1 45 (by rw [e]; simp)
  have h45 : (45 : UInt8).toNat = 45 := rfl
  omega
theorem itoa_inj {n m : Int} (h : Lib.itoa n = Lib.itoa m) : n = m := by
  rcases itoa_ways n with ⟨u, rfl, e1⟩ | ⟨u, hu, rfl, e1⟩ <;> rcases itoa_ways m with ⟨v, rfl, e2⟩ | ⟨v, hv, rfl, e2⟩
  · rw [e1, e2] at h; rw [dec_inj h]
  · rw [e1, e2] at h; exact absurd h (dec_head u _)
  · rw [e1, e2] at h; exact absurd h.symm (dec_head v _)
  · rw [e1, e2] at h; injection h with _ h; rw [dec_inj h]
theorem itoa_blank (n : Int) : (32 : UInt8) ∉ Lib.itoa n := by
  have h32 : (32 : UInt8).toNat = 32 := rfl
  rcases itoa_ways n with ⟨u, rfl, e1⟩ | ⟨u, hu, rfl, e1⟩ <;> rw [e1] <;> intro hb
  · have := (dec_digit u).1 _ hb; omega
  · rcases List.mem_cons.1 hb with hb | hb
    · exact absurd hb (by decide)
    · have := (dec_digit u).1 _ hb; omega
theorem wordL_blank (k : Int) : (32 : UInt8) ∉ wordL k := by
  unfold wordL
  repeat' split
  all_goals decide
theorem wordL_inj {k m : Int} (h1 : 1 ≤ k ∧ k ≤ 5) (h2 : 1 ≤ m ∧ m ≤ 5) (h : wordL k = wordL m) : k = m := by
  have e1 : k = 1 ∨ k = 2 ∨ k = 3 ∨ k = 4 ∨ k = 5 := by omega
  have e2 : m = 1 ∨ m = 2 ∨ m = 3 ∨ m = 4 ∨ m = 5 := by omega
  rcases e1 with rfl | rfl | rfl | rfl | rfl <;> rcases e2 with rfl | rfl | rfl | rfl | rfl <;> first | rfl | exact absurd h (by decide)
/-- Words, with a blank between. -/
def joinL : List (List UInt8) → List UInt8
  | [] => []
  | [a] => a
  | a :: b :: r => a ++ 32 :: joinL (b :: r)
def wordsQ (r : Q) : List (List UInt8) := [wordL r.k, Lib.itoa r.i, Lib.itoa r.n, Lib.itoa r.s, Lib.itoa r.p, Lib.itoa r.q, Lib.itoa r.l, Lib.itoa r.y]
theorem textQ_join (r : Q) : textQ r = joinL (wordsQ r) := by
  unfold textQ
  rw [textTo_next, textTo_next, textTo_next, textTo_next, textTo_next, textTo_next, textTo_next, textTo_zero]
  simp [joinL, wordsQ, numQ]
theorem part_eq {a b x y : List UInt8} (ha : (32 : UInt8) ∉ a) (hb : (32 : UInt8) ∉ b) (h : a ++ 32 :: x = b ++ 32 :: y) : a = b ∧ x = y := by
  induction a generalizing b with
  | nil =>
    cases b with
    | nil => simpa using h
    | cons c b =>
      injection h with h1 h2
      exact absurd (by rw [h1]; simp) hb
  | cons c a ih =>
    cases b with
    | nil =>
      injection h with h1 h2
      exact absurd (by rw [← h1]; simp) ha
    | cons d b =>
      injection h with h1 h2
      obtain ⟨e1, e2⟩ := ih (fun e => ha (List.mem_cons_of_mem _ e)) (fun e => hb (List.mem_cons_of_mem _ e)) h2
      exact ⟨by rw [h1, e1], e2⟩
/-- Unlike right reports have unlike texts. -/
theorem text_inj {r d : Q} (hr : r.Right) (hd : d.Right) (h : textQ r = textQ d) : r = d := by
  rw [textQ_join, textQ_join] at h
  obtain ⟨k, i, n, s, p, q, l, y⟩ := r
  obtain ⟨k', i', n', s', p', q', l', y'⟩ := d
  simp only [wordsQ, joinL] at h
  obtain ⟨e0, h⟩ := part_eq (wordL_blank _) (wordL_blank _) h
  obtain ⟨e1, h⟩ := part_eq (itoa_blank _) (itoa_blank _) h
  obtain ⟨e2, h⟩ := part_eq (itoa_blank _) (itoa_blank _) h
  obtain ⟨e3, h⟩ := part_eq (itoa_blank _) (itoa_blank _) h
  obtain ⟨e4, h⟩ := part_eq (itoa_blank _) (itoa_blank _) h
  obtain ⟨e5, h⟩ := part_eq (itoa_blank _) (itoa_blank _) h
  obtain ⟨e6, e7⟩ := part_eq (itoa_blank _) (itoa_blank _) h
  have f0 := wordL_inj hr.1 hd.1 e0
  simp only at f0
  rw [f0, itoa_inj e1, itoa_inj e2, itoa_inj e3, itoa_inj e4, itoa_inj e5, itoa_inj e6, itoa_inj e7]
end Go.Proofs.YtjhfgajhmenboaaDoor
