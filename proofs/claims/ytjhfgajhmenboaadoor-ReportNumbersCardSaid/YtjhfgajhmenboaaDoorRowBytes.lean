/-
  An argument's row of bytes, read as a list of bytes.
-/
import Derived.Test.YtjhfgajhmenboaaDoorBytes
import Derived.OpenShut
namespace Go.Proofs.YtjhfgajhmenboaaDoor
open Go.RowKit
set_option linter.unusedVariables false
set_option linter.unusedSimpArgs false

theorem byte_of {n : Int} (h : (Lit.int .u8 n).wf = true) : ∃ x : UInt8, n = (x.toNat : Int) := by
  obtain ⟨h1, h2⟩ := bounds_u8 h
  refine ⟨UInt8.ofNat n.toNat, ?_⟩
  rw [UInt8.toNat_ofNat']
  omega
theorem row_bytes {w : World} {a : Option Addr} {len cap : Nat} {zs : List Int} (h : (a = none ∧ len = 0 ∧ cap = 0 ∧ zs = []) ∨
    ∃ x, a = some x ∧ len ≤ cap ∧ cap ≤ maxLen ∧ zs.length = cap ∧ (∀ i, i < zs.length → w.cell? (x.add i) = some (.int .u8 (zs.getD i 0))) ∧ ∀ n ∈ zs, (Lit.int .u8 n).wf = true) :
    ∃ l, HB w a len l ∧ len ≤ cap ∧ cap ≤ 9223372036854775807 ∧ (a = none → len = 0 ∧ cap = 0) := by
  rcases h with ⟨rfl, rfl, rfl, rfl⟩ | ⟨x, rfl, hl, hm, hz, hc, hw⟩
  · exact ⟨[], hb_nil w none, Nat.le_refl _, by omega, fun _ => ⟨rfl, rfl⟩⟩
  · unfold maxLen at hm
    refine ⟨(zs.take len).map (fun n => UInt8.ofNat n.toNat), ⟨by rw [List.length_map, List.length_take]; omega, fun h => ?_⟩, hl, hm, fun h => by cases h⟩
    obtain ⟨b, off, spot⟩ := x
    have hs : spot = none := by simpa [Addr.add] using World.cell?_spot (hc 0 (by omega))
    subst hs
    refine ⟨b, off, rfl, fun k hk => ?_⟩
    have e := hc k (by omega)
    rw [WideShapes.add_plain] at e
    rw [e]
    have hk2 : k < zs.length := by omega
    have hmem : zs[k] ∈ zs := List.getElem_mem hk2
    obtain ⟨y, hy⟩ := byte_of (hw _ hmem)
    unfold bc
    have e1 : zs.getD k 0 = zs[k] := by simp [List.getD, List.getElem?_eq_getElem hk2]
    have e2 : ((zs.take len).map (fun n => UInt8.ofNat n.toNat)).getD k 0 = UInt8.ofNat (zs[k]).toNat := by
      simp [List.getD, hk, List.getElem?_eq_getElem hk2]
    rw [e1, e2, hy]
    simp
end Go.Proofs.YtjhfgajhmenboaaDoor
