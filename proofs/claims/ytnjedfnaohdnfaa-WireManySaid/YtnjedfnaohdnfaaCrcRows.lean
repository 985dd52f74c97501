/-
  The law WireCrc.
-/
import Derived.Test.YtnjedfnaohdnfaaWKnown
import Derived.Test.YtnjedfnaohdnfaaRoomy
import Derived.Test.YtnjedfnaohdnfaaOnly
import Derived.Deep.RegionHeld3
namespace Go.Proofs.Ytnjedfnaohdnfaa
open Go.RowKit
set_option linter.unusedVariables false
set_option linter.unusedSimpArgs false

/-- A row that is filled up to k. -/
def rowK (f : Nat → UInt8) (K k : Nat) : List UInt8 := (List.range K).map (fun i => if i < k then f i else 0)
theorem rowK_len (f : Nat → UInt8) (K k : Nat) : (rowK f K k).length = K := by unfold rowK; simp
theorem rowK_zero (f : Nat → UInt8) (K : Nat) : rowK f K 0 = List.replicate K 0 := by
  unfold rowK
  refine List.ext_getElem (by simp) (fun i h1 h2 => ?_)
  simp
theorem rowK_get (f : Nat → UInt8) {K k i : Nat} (h : i < K) : (rowK f K k).getD i 0 = if i < k then f i else 0 := by
  unfold rowK; simp [List.getD, h]
theorem rowK_set (f : Nat → UInt8) {K k : Nat} (h : k < K) : (rowK f K k).set k (f k) = rowK f K (k + 1) := by
  refine list_same (n := K) (by rw [List.length_set, rowK_len]) (rowK_len _ _ _) (fun j hj => ?_)
  rw [rowK_get f hj]
  by_cases e : k = j
  · subst e
    simp [List.getD, rowK_len, h]
  · have := rowK_get f (k := k) hj
    simp only [List.getD_eq_getElem?_getD, List.getElem?_set_ne e] at this ⊢
    rw [this]
    by_cases h1 : j < k
    · rw [if_pos h1, if_pos (by omega)]
    · rw [if_neg h1, if_neg (by omega)]
/-- What the law writes. -/
def cF (x : UInt8) (i : Nat) : UInt8 := x + UInt8.ofNat i
def dF (l r : List UInt8) (x : UInt8) (i : Nat) : UInt8 := l.getD i 0 ^^^ r.getD i 0 ^^^ cF x i
theorem cF_nat (x : UInt8) (i : Nat) : ((cF x i).toNat : Int) = ((x.toNat : Int) + (i : Int) % 256) % 256 := by
  unfold cF
  rw [UInt8.toNat_add, UInt8.toNat_ofNat']
  omega
theorem u8_xor_byte (a b : UInt8) : bits .xor .u8 (a.toNat : Int) (b.toNat : Int) = ((a ^^^ b).toNat : Int) := by
  rw [u8_xor_nat _ _ (by have := a.toNat_lt; omega) (by have := b.toNat_lt; omega), UInt8.toNat_xor]
theorem below_on {a w w' : World} (h : Below a.heap.size a w) (hk : Below w.heap.size w w') : Below a.heap.size a w' := h.trans (hk.mono h.size)
theorem crc_rows (l r : List UInt8) (x : UInt8) (K : Nat) (h1 : K ≤ l.length) (h2 : K ≤ r.length) : crcL (l.take K) ^^^ crcL (r.take K) ^^^ crcL (rowK (cF x) K K) = crcL (rowK (dF l r x) K K) := by
  have e1 : (l.take K).length = K := by rw [List.length_take]; omega
  have e2 : (r.take K).length = K := by rw [List.length_take]; omega
  rw [crc_three _ _ _ (by omega) (by rw [rowK_len]; omega)]
  congr 1
  have e3 : (xorL (l.take K) (r.take K)).length = K := by rw [xorL_len _ _ (by omega), e1]
  refine list_same (n := K) (by rw [xorL_len _ _ (by rw [e3, rowK_len]), e3]) (rowK_len _ _ _) (fun j hj => ?_)
  rw [xorL_get _ _ _ (by omega) (by rw [e3, rowK_len]), xorL_get _ _ _ (by omega) (by omega), rowK_get _ hj, rowK_get _ hj, if_pos hj, if_pos hj]
  unfold dF
  simp [List.getD, hj]
end Go.Proofs.Ytnjedfnaohdnfaa
