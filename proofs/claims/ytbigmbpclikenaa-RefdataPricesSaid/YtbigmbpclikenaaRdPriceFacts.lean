/-
  What the law RefdataPrices leans on: prices on ticks, and beyond the band.
-/
import Derived.Test.YtbigmbpclikenaaRdRight
import Derived.Test.YtbigmbpclikenaaRdPrice
namespace Go.Proofs.Ytbigmbpclikenaa
open Go.RowKit
set_option linter.unusedVariables false
set_option linter.unusedSimpArgs false

/-- The band of an instrument of the keep's product, in ticks. -/
structure Band (p : PD) (inst : Int) (T a b : Int) : Prop where
  T1 : 1 ≤ T
  T2 : T ≤ 10
  tick : p.tick = T
  lo : (if (legsL p inst).2.2 then -p.wide else p.low) = T * a
  hi : (if (legsL p inst).2.2 then p.wide else p.high) = T * b
  a1 : -100 ≤ a
  a2 : a ≤ 0
  b1 : 0 ≤ b
  b2 : b ≤ 100
theorem band_of (p : PD) (A1 : Option Addr) (c1 : Nat) (A2 : Option Addr) (c2 : Nat) (inst : Int) : ∃ T a b : Int, Band (keepP p A1 c1 A2 c2) inst T a b := by
  have h1 := withinN_le p.tick 9
  have h2 := withinN_le p.wide 60
  by_cases c : (legsL (keepP p A1 c1 A2 c2) inst).2.2 = true
  · refine ⟨1 + (withinN p.tick 9 : Int), -(5 + (withinN p.wide 60 : Int)), 5 + (withinN p.wide 60 : Int), by omega, by omega, rfl, ?_, ?_, by omega, by omega, by omega, by omega⟩
    · rw [if_pos c, Int.mul_neg]; rfl
    · rw [if_pos c]; rfl
  · refine ⟨1 + (withinN p.tick 9 : Int), -20, 100, by omega, by omega, rfl, ?_, ?_, by omega, by omega, by omega, by omega⟩
    · rw [if_neg c, Int.mul_comm]; rfl
    · rw [if_neg c, Int.mul_comm]; rfl
theorem band_price {p : PD} {inst T a b : Int} (hz : chk p = 0) (h0 : 0 ≤ inst) (h : inst < cntL p) (hb : Band p inst T a b) (x : Int) :
    priceL p inst x = if multB x T = false then 22 else if insB x (T * a) (T * b) = false then 23 else 0 := by
  have es := legs_spread h0 h
  rw [price_eq hz h0 h, hb.tick]
  have e1 : (if (legsL p inst).1 = (legsL p inst).2.1 then p.low else -p.wide) = T * a := by
    rw [← hb.lo]
    by_cases c : (legsL p inst).1 = (legsL p inst).2.1
    · rw [if_pos c, es, if_neg (by simp [c])]
    · rw [if_neg c, es, if_pos (bne_iff_ne.2 c)]
  have e2 : (if (legsL p inst).1 = (legsL p inst).2.1 then p.high else p.wide) = T * b := by
    rw [← hb.hi]
    by_cases c : (legsL p inst).1 = (legsL p inst).2.1
    · rw [if_pos c, es, if_neg (by simp [c])]
    · rw [if_neg c, es, if_pos (bne_iff_ne.2 c)]
  rw [e1, e2]
theorem price_in {p : PD} {inst T a b : Int} (hz : chk p = 0) (h0 : 0 ≤ inst) (h : inst < cntL p) (hb : Band p inst T a b) {s : Int} (h1 : a ≤ s) (h2 : s ≤ b) : priceL p inst (T * s) = 0 := by
  have hT := hb.T1
  rw [band_price hz h0 h hb, show multB (T * s) T = true from decide_eq_true ⟨hT, Int.mul_tmod_right T s⟩, if_neg (by decide)]
  rw [show insB (T * s) (T * a) (T * b) = true from decide_eq_true ⟨Int.mul_le_mul_of_nonneg_left h1 (by omega), Int.mul_le_mul_of_nonneg_left h2 (by omega)⟩, if_neg (by decide)]
theorem price_out {p : PD} {inst T a b : Int} (hz : chk p = 0) (h0 : 0 ≤ inst) (h : inst < cntL p) (hb : Band p inst T a b) {s : Int} (h1 : s < a ∨ b < s) : priceL p inst (T * s) = 23 := by
  have hT := hb.T1
  rw [band_price hz h0 h hb, show multB (T * s) T = true from decide_eq_true ⟨hT, Int.mul_tmod_right T s⟩, if_neg (by decide)]
  rw [show insB (T * s) (T * a) (T * b) = false from decide_eq_false (fun g => by
    rcases h1 with h1 | h1
    · have := Int.mul_lt_mul_of_pos_left h1 (show 0 < T by omega); omega
    · have := Int.mul_lt_mul_of_pos_left h1 (show 0 < T by omega); omega), if_pos rfl]
theorem price_off {p : PD} {inst T a b : Int} (hz : chk p = 0) (h0 : 0 ≤ inst) (h : inst < cntL p) (hb : Band p inst T a b) {s : Int} (h1 : T ≠ 1) : priceL p inst (T * s + 1) = 22 := by
  have hT := hb.T1
  rw [band_price hz h0 h hb, show multB (T * s + 1) T = false from multB_off (by rw [Int.add_comm, Int.add_mul_emod_self_left]; rw [Int.emod_eq_of_lt (by omega) (by omega)]; omega), if_pos rfl]
end Go.Proofs.Ytbigmbpclikenaa
