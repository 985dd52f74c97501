/-
  Plain facts on sums of numbers of 64 bits, in two words.
-/
import Derived.Test.YtabogoonbapjiaaPlain
import Derived.Test.YtabogoonbapjiaaNum
namespace Go.Proofs.Ytabogoonbapjiaa
open Go.RowKit
set_option linter.unusedVariables false

theorem sumL_bd (l : List Int) (h : ∀ x ∈ l, I64 x) : -((l.length : Int) * 9223372036854775808) ≤ sumL l ∧ sumL l ≤ (l.length : Int) * 9223372036854775808 := by
  induction l with
  | nil => simp [sumL]
  | cons x l ih =>
    have := ih (fun y hy => h y (by simp [hy]))
    obtain ⟨h1, h2⟩ := h x (by simp)
    simp only [List.length_cons, sumL]
    omega
theorem take_mem {l : List Int} {k : Nat} {x : Int} (h : x ∈ l.take k) : x ∈ l := List.mem_of_mem_take h

/-- What the two words hold of a sum. -/
def Words (S hi lo : Int) : Prop := hi = S / 18446744073709551616 % 18446744073709551616 ∧ lo = S % 18446744073709551616
theorem words_bd {S hi lo : Int} (h : Words S hi lo) : 0 ≤ hi ∧ hi ≤ 18446744073709551615 ∧ 0 ≤ lo ∧ lo ≤ 18446744073709551615 := by
  obtain ⟨rfl, rfl⟩ := h; omega
theorem words_next {S hi lo x : Int} (h : Words S hi lo) (hx : I64 x) :
    Words (S + x) ((hi + sgn x + (lo + x % 18446744073709551616) / 18446744073709551616) % 18446744073709551616) ((lo + x % 18446744073709551616) % 18446744073709551616) := by
  obtain ⟨rfl, rfl⟩ := h
  obtain ⟨h1, h2⟩ := hx
  unfold sgn
  refine ⟨?_, by omega⟩
  split <;> omega
theorem sgn_bd (x : Int) : 0 ≤ sgn x ∧ sgn x ≤ 18446744073709551615 := by unfold sgn; split <;> omega
theorem wrap_bd (x : Int) : -9223372036854775808 ≤ wrap64 x ∧ wrap64 x ≤ 9223372036854775807 := by unfold wrap64; omega
theorem words_yes {S hi lo : Int} (h : Words S hi lo) (f : fitB S = true) : hi = sgn (wrap64 lo) ∧ wrap64 lo = S := by
  obtain ⟨rfl, rfl⟩ := h
  have := (fitB_iff S).1 f
  have e : wrap64 (S % 18446744073709551616) = S := by unfold wrap64; omega
  rw [e]
  refine ⟨?_, rfl⟩
  unfold sgn; split <;> omega
theorem words_no {S hi lo : Int} (h : Words S hi lo) (b1 : -85070591730234615865843651857942052864 ≤ S) (b2 : S ≤ 85070591730234615865843651857942052864) (f : fitB S = false) : (hi != sgn (wrap64 lo)) = true := by
  obtain ⟨rfl, rfl⟩ := h
  have hn : ¬ (-9223372036854775808 ≤ S ∧ S ≤ 9223372036854775807) := fun hh => by rw [(fitB_iff _).2 hh] at f; cases f
  simp only [bne_iff_ne, ne_eq]
  unfold sgn wrap64
  split <;> omega
/-- What the document's own two words hold of a sum of so many. -/
def Pair (S : Int) (k : Nat) (hi lo : Int) : Prop := hi * 18446744073709551616 + lo = S ∧ 0 ≤ lo ∧ lo ≤ 18446744073709551615 ∧ -(k : Int) ≤ hi ∧ hi ≤ k
theorem pair_next {S hi lo x : Int} {k : Nat} (h : Pair S k hi lo) (hx : I64 x) :
    ∃ m c d : Int, IntKind.u64.wrap (lo + IntKind.u64.wrap x) = m ∧ 0 ≤ m ∧ m ≤ 18446744073709551615 ∧ (m < lo ∧ c = 1 ∨ lo ≤ m ∧ c = 0) ∧ (x < 0 ∧ d = 1 ∨ 0 ≤ x ∧ d = 0) ∧ Pair (S + x) (k + 1) (hi + c - d) m ∧ (0 ≤ x → m < lo → IntKind.u64.wrap (lo + x) = m) ∧ (0 ≤ x → lo ≤ m → lo + x = m) := by
  obtain ⟨h1, h2, h3, h4, h5⟩ := h
  obtain ⟨x1, x2⟩ := hx
  refine ⟨_, if lo + x % 18446744073709551616 < 18446744073709551616 then 0 else 1, if x < 0 then 1 else 0, rfl, ?_, ?_, ?_, ?_, ?_, ?_, ?_⟩
  all_goals try simp only [IntKind.wrap_u64]
  · omega
  · omega
  · split <;> omega
  · split <;> omega
  · unfold Pair
    try simp only [IntKind.wrap_u64]
    split <;> split <;> omega
  · intro _ _; omega
  · intro _ _; omega
theorem pair_fit {S hi lo : Int} {k : Nat} (h : Pair S k hi lo) : (fitB S = true ∧ (hi = 0 ∧ lo ≤ 9223372036854775807 ∨ hi = -1 ∧ 9223372036854775808 ≤ lo) ∧ wrap64 lo = S) ∨
    (fitB S = false ∧ (hi < -1 ∨ 0 < hi ∨ (hi = 0 ∧ 9223372036854775808 ≤ lo) ∨ (hi = -1 ∧ lo ≤ 9223372036854775807))) := by
  obtain ⟨h1, h2, h3, h4, h5⟩ := h
  by_cases f : -9223372036854775808 ≤ S ∧ S ≤ 9223372036854775807
  · refine .inl ⟨(fitB_iff S).2 f, by omega, ?_⟩
    unfold wrap64; omega
  · exact .inr ⟨fitB_no f, by omega⟩
end Go.Proofs.Ytabogoonbapjiaa
