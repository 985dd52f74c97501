/-
  Plain facts on codes of months and names of spreads: what they are read as.
-/
import Derived.Test.YtfhegnmfkmolbaaSymTells
namespace Go.Proofs.Ytfhegnmfkmolbaa
open Go.RowKit
set_option linter.unusedVariables false
set_option linter.unusedSimpArgs false

theorem code_stroke {p : List UInt8} {m : Nat} (hp : prodB p = true) (hm : m < 1200) : ∀ x ∈ p ++ tail m, x ≠ 45 := by
  intro x hx e
  rcases List.mem_append.1 hx with hx | hx
  · have := prodB_bytes hp x hx
    rw [e] at this
    exact absurd this (by decide)
  · have := (tail_bytes hm x hx).1
    rw [e] at this
    exact absurd this (by decide)
theorem parse_code {p : List UInt8} {m : Nat} (hp : prodB p = true) (hm : m < 1200) : parseO (p ++ tail m) = some (p, m) := parseO_code ⟨hp, hm, rfl⟩
theorem spread_name {p : List UInt8} {n f : Nat} (hp : prodB p = true) (hn : n < 1200) (hf : f < 1200) (h : n < f) : spreadO (p ++ tail n ++ 45 :: (p ++ tail f)) = some (p, n, f) := by
  obtain ⟨h1, h2⟩ := halves_at (b := p ++ tail f) (code_stroke hp hn)
  exact spreadO_yes (by rw [h1]; exact parse_code hp hn) (by rw [h2]; exact parse_code hp hf) h
theorem spread_back {p : List UInt8} {n f : Nat} (hp : prodB p = true) (hn : n < 1200) (hf : f < 1200) (h : n < f) : spreadO (p ++ tail f ++ 45 :: (p ++ tail n)) = none := by
  obtain ⟨h1, h2⟩ := halves_at (b := p ++ tail n) (code_stroke hp hf)
  exact spreadO_no (by rw [h1]; exact parse_code hp hf) (by rw [h2]; exact parse_code hp hn) (fun hc => by omega)
theorem spread_code {p : List UInt8} {m : Nat} (hp : prodB p = true) (hm : m < 1200) : spreadO (p ++ tail m) = none := by
  obtain ⟨h1, h2⟩ := halves_none (code_stroke hp hm)
  exact spreadO_tl (by rw [h2]; rfl)
theorem parse_spread {a p : List UInt8} {f : Nat} : parseO (a ++ 45 :: (p ++ tail f)) = none := by
  cases h : parseO (a ++ 45 :: (p ++ tail f)) with
  | none => rfl
  | some x =>
    exfalso
    obtain ⟨q, m⟩ := x
    obtain ⟨h1, h2, h3⟩ := code_of h
    have h4 : (a ++ 45 :: p) ++ tail f = q ++ tail m := by rw [← h3]; simp
    have h5 := (List.append_inj' h4 (by rw [tail_len, tail_len])).1
    have h6 := prodB_bytes h1 45 (by rw [← h5]; simp)
    exact absurd h6 (by decide)
theorem code_same {p : List UInt8} {n f : Nat} (hn : n < 1200) (hf : f < 1200) (h : n ≠ f) : p ++ tail n ≠ p ++ tail f := fun e => h (tail_inj hn hf (List.append_cancel_left e))
theorem code_len (p : List UInt8) (m : Nat) : (p ++ tail m).length = p.length + 3 := by rw [List.length_append, tail_len]
/-- What is read is just what is made of it. -/
theorem parse_makes {l : List UInt8} (h : parseO l = some (pq l, pm l)) : codeL (pq l) (pm l) = l ∧ codeE (pq l) (pm l) = 0 := by
  obtain ⟨h1, h2, h3⟩ := code_of h
  exact ⟨by rw [codeL_ok h1 (by omega), ← h3], codeE_ok h1 (by omega)⟩
/-- A number is folded to a month. -/
theorem mod_neg {n : Int} (k : Nat) (h1 : n < 0) (hk : 0 < k) : ∃ m : Nat, m < k ∧ -(n + 1).tmod k = (m : Int) := by
  refine ⟨((-(n + 1)) % k).toNat, ?_, ?_⟩
  · have := Int.emod_lt_of_pos (-(n + 1)) (show (0 : Int) < k by omega)
    have := Int.emod_nonneg (-(n + 1)) (show (k : Int) ≠ 0 by omega)
    omega
  · have h2 : (n + 1).tmod (k : Int) = -((-(n + 1)) % (k : Int)) := by
      rw [← Int.tmod_eq_emod_of_nonneg (by omega : 0 ≤ -(n + 1)), Int.neg_tmod]; omega
    have := Int.emod_nonneg (-(n + 1)) (show (k : Int) ≠ 0 by omega)
    rw [h2]; omega
theorem mod_pos {n : Int} (k : Nat) (h1 : 0 ≤ n) (hk : 0 < k) : ∃ m : Nat, m < k ∧ n % (k : Int) = (m : Int) := by
  have := Int.emod_lt_of_pos n (show (0 : Int) < k by omega)
  have := Int.emod_nonneg n (show (k : Int) ≠ 0 by omega)
  exact ⟨(n % k).toNat, by omega, by omega⟩
end Go.Proofs.Ytfhegnmfkmolbaa
