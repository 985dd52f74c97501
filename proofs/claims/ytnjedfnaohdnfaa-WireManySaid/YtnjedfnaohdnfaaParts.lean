/-
  A list of parts, as it came in.
-/
import Derived.Test.YtnjedfnaohdnfaaPut
import Derived.Test.YtnjedfnaohdnfaaFrames
namespace Go.Proofs.Ytnjedfnaohdnfaa
open Go.RowKit
set_option linter.unusedVariables false
set_option linter.unusedSimpArgs false

/-- Part i of the slice: its kind, its number, its text. -/
def Parts (w : World) (a : Option Addr) (len : Nat) (K N : Nat → Int) (S : Nat → List UInt8) : Prop :=
  ∀ i, i < len → ∃ b off, a = some ⟨b, off, none⟩ ∧ w.cell? ⟨b, off + i * 3, none⟩ = some (.int .i64 (K i)) ∧ w.cell? ⟨b, off + i * 3 + 1, none⟩ = some (.int .i64 (N i)) ∧ w.cell? ⟨b, off + i * 3 + 2, none⟩ = some (.string (str (S i))) ∧
    -9223372036854775808 ≤ N i ∧ N i ≤ 9223372036854775807
theorem Parts.below {w w' : World} {a : Option Addr} {len : Nat} {K N : Nat → Int} {S : Nat → List UInt8} (h : Parts w a len K N S) (hb : Below w.heap.size w w') : Parts w' a len K N S := by
  intro i hi
  obtain ⟨b, off, e, h1, h2, h3, h4⟩ := h i hi
  have keep : ∀ {p : Addr} {v : Value}, w.cell? p = some v → w'.cell? p = some v := fun {p v} hc => (hb.cell (p := p) (World.block_lt_of_cell? w _ hc)).trans hc
  exact ⟨b, off, e, keep h1, keep h2, keep h3, h4⟩
/-- Number i of a slice of numbers. -/
def Nums (w : World) (a : Option Addr) (len : Nat) (N : Nat → Int) : Prop :=
  ∀ i, i < len → ∃ b off, a = some ⟨b, off, none⟩ ∧ w.cell? ⟨b, off + i, none⟩ = some (.int .i64 (N i)) ∧ -9223372036854775808 ≤ N i ∧ N i ≤ 9223372036854775807
theorem Nums.below {w w' : World} {a : Option Addr} {len : Nat} {N : Nat → Int} (h : Nums w a len N) (hb : Below w.heap.size w w') : Nums w' a len N := by
  intro i hi
  obtain ⟨b, off, e, h1, h4⟩ := h i hi
  exact ⟨b, off, e, (hb.cell (p := ⟨b, off + i, none⟩) (World.block_lt_of_cell? w _ h1)).trans h1, h4⟩
/-- Where a row of the call's own lies. -/
theorem RB.plain {w : World} {base n c : Nat} {A : Option Addr} {l : List UInt8} (h : RB w base (.slice A n c) l) : ∀ ad, A = some ad → ad.spot = none ∧ base ≤ ad.block ∧ ad.block < w.heap.size := by
  intro ad e
  subst e
  obtain ⟨h1, h2⟩ := h.blk (k := ad.block) rfl
  refine ⟨?_, h1, h2⟩
  rcases h.2 with ⟨e, _⟩ | ⟨g, cap, cur, e, _⟩
  · cases e
  · injection e with e1 e2 e3
    injection e1 with e1
    rw [e1]
theorem rb_some' {w : World} {base n c : Nat} {A : Option Addr} {l : List UInt8} (h : RB w base (.slice A n c) l) (h0 : 0 < l.length) : ∃ g, A = some ⟨g, 0, none⟩ ∧ l.length = n ∧ n ≤ c := by
  obtain ⟨g, cap, hv, _, _⟩ := World.ownsRow.form h h0
  injection hv with e1 e2 e3
  obtain ⟨A', c', e, _, _, _, h3⟩ := h.holds
  injection e with f1 f2 f3
  exact ⟨g, e1, e2.symm, by omega⟩
theorem Get_z (c g c2 : Nat) (A : Option Addr) (n cap : Nat) (l : List UInt8) (k y : Nat) (kind : Int) (w : World) (h : Hid (Two c g c2 A n cap l k y w)) :
    Calls Try.prog 12 #[.pointer (some ⟨c, 0, none⟩), .pointer (some ⟨c2, 0, none⟩), .int .i64 kind] w fun e w' => e = .returned (.bool true) ∧ ∃ k' y', Two c g c2 A n cap l k' y' w' ∧ Only (pq c c2) w w' := by
  by_cases h1 : kind = 1
  · subst h1
    refine (Get_one c g c2 A n cap l k y w h).mono ?_
    rintro e w' ⟨rfl, h1, h2⟩
    exact ⟨rfl, _, _, h1, h2⟩
  · by_cases h2 : kind = 2
    · subst h2
      refine (Get_two c g c2 A n cap l k y w h).mono ?_
      rintro e w' ⟨rfl, h1, h2⟩
      exact ⟨rfl, _, _, h1, h2⟩
    · refine (Get_text c g c2 kind h1 h2 A n cap l k y w h).mono ?_
      rintro e w' ⟨rfl, h1, h2⟩
      exact ⟨rfl, _, _, h1, h2⟩
end Go.Proofs.Ytnjedfnaohdnfaa
