/-
  Contract: Open, of the program: where all bytes are there.
-/
import Derived.Test.YtjhfgajhmenboaaDoorOpen
namespace Go.Proofs.YtjhfgajhmenboaaDoor
open Go.RowKit
set_option linter.unusedVariables false
set_option linter.unusedSimpArgs false

set_option maxRecDepth 100000 in
set_option maxHeartbeats 800000 in
theorem Open_sum (b off n cap k : Nat) (z T : List UInt8) (x y : UInt8) (c p : Nat) (w : World) (hn : n ≤ 140737488355328) (hcap : n ≤ cap) (hcap2 : cap ≤ 9223372036854775807)
    (hx : w.cell? ⟨b, off + k, none⟩ = some (.int .u8 x.toNat)) (hy : w.cell? ⟨b, off + (k + 1), none⟩ = some (.int .u8 y.toNat)) (heq : y.toNat = 255 - x.toNat) (hs : k + (x.toNat + 6) ≤ n)
    (hz : Hid (HB w (some ⟨b, off + (k + 2), none⟩) x.toNat z)) (hT : Hid (HB w (some ⟨b, off + (k + 2 + x.toNat), none⟩) 4 T)) (ec : Hid (crcL z = c)) (ep : Hid (numL T = p)) (hcp : p ≠ c) (hc : c < 4294967296) (hp : p < 4294967296) :
    Calls Tryd.prog 21 #[.slice (some ⟨b, off, none⟩) n cap, .int .i64 k] w fun e w' => e = .returned (.tuple #[.slice none 0 0, .int .i64 0, .int .i64 14]) ∧ ∃ q, w' = w.drewN q := by
  have hxl : x.toNat < 256 := by have := x.toNat_lt; omega
  have hyl : y.toNat < 256 := by have := y.toNat_lt; omega
  have d1 : decide ((n : Int) < k) = false := decide_eq_false (by omega)
  have d1' : decide (n < k) = false := decide_eq_false (by omega)
  have q1 : ¬ cap = k := by omega
  have hnb : bits BinOp.xor IntKind.u8 (if IntKind.u8.signed = true then -1 else IntKind.u8.max) (x.toNat : Int) = 255 - (x.toNat : Int) := not_byte (by omega)
  have d3 : ((y.toNat : Int) != 255 - (x.toNat : Int)) = false := by simp; omega
  rw [← Nat.add_assoc] at hy
  go_enter Tryd.func21, Tryd.ntmps21
  obtain ⟨m, em⟩ : ∃ m, n - k = m := ⟨_, rfl⟩
  obtain ⟨cap', ecap⟩ : ∃ cap', cap - k = cap' := ⟨_, rfl⟩
  have m2 : 2 ≤ m := by omega
  have m3 : x.toNat + 6 ≤ m := by omega
  have m4 : m ≤ cap' := by omega
  have m5 : m ≤ 140737488355328 := by omega
  have d2 : decide ((m : Int) < 2) = false := decide_eq_false (by omega)
  have hcb : ((p : Int) != (c : Int)) = true := by simp; omega
  clear heq hcp
  go_wp2_with (first | rw [em] | rw [ecap])
  have i0 : (0 : Int) < (m : Int) := by omega
  have i1 : (1 : Int) < (m : Int) := by omega
  obtain ⟨o, eo⟩ : ∃ o, off + k = o := ⟨_, rfl⟩
  have ho2 := Lib.hid (show off + (k + 2) = o + 2 by omega)
  have ho3 := Lib.hid (show off + (k + 2 + x.toNat) = o + (2 + x.toNat) by omega)
  rw [ho2.out] at hz
  rw [ho3.out] at hT
  rw [eo]
  rw [eo] at hx hy
  clear em ecap eo
  go_quiet (fail)
  have hx' : ∀ q, (w.drewN q).cell? ⟨b, o, none⟩ = some (.int .u8 x.toNat) := fun q => hx
  have d4 : decide ((m : Int) < 2 + (x.toNat : Int) + 4) = false := decide_eq_false (by omega)
  go_wp2_with fail
  refine (Number_any (some ⟨b, o + (2 + x.toNat), none⟩) 4 (cap' - (2 + x.toNat)) T _ (by omega) (Lib.hid (hT.out.drewN _))).mono ?_
  rintro e w1 ⟨rfl, rfl⟩
  rw [ep.out]
  clear hT ep hx' hx hy ho2 ho3
  go_wp2_with fail
  refine (Crc_any (some ⟨b, o + 2, none⟩) x.toNat (cap' - 2) z _ (by omega) (Lib.hid (hz.out.drewN _))).mono ?_
  rintro e w1 ⟨rfl, rfl⟩
  rw [ec.out]
  go_wp2_with fail
  go_ret3
  exact ⟨rfl, _, rfl⟩

set_option maxRecDepth 100000 in
set_option maxHeartbeats 800000 in
theorem Open_yes (b off n cap k : Nat) (z T : List UInt8) (x y : UInt8) (c p : Nat) (w : World) (hn : n ≤ 140737488355328) (hcap : n ≤ cap) (hcap2 : cap ≤ 9223372036854775807)
    (hx : w.cell? ⟨b, off + k, none⟩ = some (.int .u8 x.toNat)) (hy : w.cell? ⟨b, off + (k + 1), none⟩ = some (.int .u8 y.toNat)) (heq : y.toNat = 255 - x.toNat) (hs : k + (x.toNat + 6) ≤ n)
    (hz : Hid (HB w (some ⟨b, off + (k + 2), none⟩) x.toNat z)) (hT : Hid (HB w (some ⟨b, off + (k + 2 + x.toNat), none⟩) 4 T)) (ec : Hid (crcL z = c)) (ep : Hid (numL T = p)) (hcp : p = c) (hc : c < 4294967296) (hp : p < 4294967296) :
    Calls Tryd.prog 21 #[.slice (some ⟨b, off, none⟩) n cap, .int .i64 k] w fun e w' => ∃ v, e = .returned (.tuple #[v, .int .i64 ((k + 6 + x.toNat : Nat) : Int), .int .i64 0]) ∧ RB w' w.heap.size v z ∧ Below w.heap.size w w' := by
  have hxl : x.toNat < 256 := by have := x.toNat_lt; omega
  have hyl : y.toNat < 256 := by have := y.toNat_lt; omega
  have d1 : decide ((n : Int) < k) = false := decide_eq_false (by omega)
  have d1' : decide (n < k) = false := decide_eq_false (by omega)
  have q1 : ¬ cap = k := by omega
  have hnb : bits BinOp.xor IntKind.u8 (if IntKind.u8.signed = true then -1 else IntKind.u8.max) (x.toNat : Int) = 255 - (x.toNat : Int) := not_byte (by omega)
  have d3 : ((y.toNat : Int) != 255 - (x.toNat : Int)) = false := by simp; omega
  rw [← Nat.add_assoc] at hy
  go_enter Tryd.func21, Tryd.ntmps21
  obtain ⟨m, em⟩ : ∃ m, n - k = m := ⟨_, rfl⟩
  obtain ⟨cap', ecap⟩ : ∃ cap', cap - k = cap' := ⟨_, rfl⟩
  have m2 : 2 ≤ m := by omega
  have m3 : x.toNat + 6 ≤ m := by omega
  have m4 : m ≤ cap' := by omega
  have m5 : m ≤ 140737488355328 := by omega
  have d2 : decide ((m : Int) < 2) = false := decide_eq_false (by omega)
  have hcb : ((p : Int) != (c : Int)) = false := by simp; omega
  clear heq hcp
  go_wp2_with (first | rw [em] | rw [ecap])
  have i0 : (0 : Int) < (m : Int) := by omega
  have i1 : (1 : Int) < (m : Int) := by omega
  obtain ⟨o, eo⟩ : ∃ o, off + k = o := ⟨_, rfl⟩
  have ho2 := Lib.hid (show off + (k + 2) = o + 2 by omega)
  have ho3 := Lib.hid (show off + (k + 2 + x.toNat) = o + (2 + x.toNat) by omega)
  rw [ho2.out] at hz
  rw [ho3.out] at hT
  rw [eo]
  rw [eo] at hx hy
  clear em ecap eo
  go_quiet (fail)
  have hx' : ∀ q, (w.drewN q).cell? ⟨b, o, none⟩ = some (.int .u8 x.toNat) := fun q => hx
  have d4 : decide ((m : Int) < 2 + (x.toNat : Int) + 4) = false := decide_eq_false (by omega)
  go_wp2_with fail
  refine (Number_any (some ⟨b, o + (2 + x.toNat), none⟩) 4 (cap' - (2 + x.toNat)) T _ (by omega) (Lib.hid (hT.out.drewN _))).mono ?_
  rintro e w1 ⟨rfl, rfl⟩
  rw [ep.out]
  clear hT ep hx' hx hy ho2 ho3
  go_wp2_with fail
  refine (Crc_any (some ⟨b, o + 2, none⟩) x.toNat (cap' - 2) z _ (by omega) (Lib.hid (hz.out.drewN _))).mono ?_
  rintro e w1 ⟨rfl, rfl⟩
  rw [ec.out]
  go_wp2_with fail
  refine (BClone_at ⟨b, o + 2, none⟩ x.toNat (cap' - 2) z _ (by omega) (Lib.hid (hz.out.drewN _))).mono ?_
  rintro e w2 ⟨v2, rfl, r2, b2⟩
  have r2 := Lib.hid r2
  have b2 := Lib.hid b2
  go_wp2_with fail
  go_ret3
  refine ⟨v2, ?_, r2.out, (below_drewN (Below.refl _ w) nq).trans b2.out⟩
  rw [show ((k + 6 + x.toNat : Nat) : Int) = (k : Int) + (2 + (x.toNat : Int)) + 4 by omega]
  rfl
end Go.Proofs.YtjhfgajhmenboaaDoor
