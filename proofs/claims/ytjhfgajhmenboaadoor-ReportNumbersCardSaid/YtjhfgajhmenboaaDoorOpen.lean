/-
  Contract: Open, of the program: the cases.
-/
import Derived.Test.YtjhfgajhmenboaaDoorFrame
namespace Go.Proofs.YtjhfgajhmenboaaDoor
open Go.RowKit
set_option linter.unusedVariables false
set_option linter.unusedSimpArgs false

set_option maxRecDepth 100000 in
theorem Open_arg (A : Option Addr) (n cap : Nat) (i : Int) (w : World) (hn : n ≤ 140737488355328) (hi : i < 0 ∨ (n : Int) < i) :
    Calls Tryd.prog 21 #[.slice A n cap, .int .i64 i] w fun e w' => e = .returned (.tuple #[.slice none 0 0, .int .i64 0, .int .i64 1]) ∧ w' = w := by
  by_cases h0 : i < 0
  · clear hi
    go_enter Tryd.func21, Tryd.ntmps21
    go_wp2_with fail
    go_ret3
    exact ⟨rfl, rfl⟩
  · have h1 : (n : Int) < i := by omega
    have h2 : 0 ≤ i := by omega
    clear hi h0
    go_enter Tryd.func21, Tryd.ntmps21
    go_wp2_with fail
    go_ret3
    exact ⟨rfl, rfl⟩

set_option maxRecDepth 100000 in
theorem Open_short_nil (w : World) :
    Calls Tryd.prog 21 #[.slice none 0 0, .int .i64 ((0 : Nat) : Int)] w fun e w' => e = .returned (.tuple #[.slice none 0 0, .int .i64 0, .int .i64 10]) ∧ w' = w := by
  go_enter Tryd.func21, Tryd.ntmps21
  go_wp2_with fail
  go_ret3
  exact ⟨rfl, rfl⟩
set_option maxRecDepth 100000 in
theorem Open_short_end (ad : Addr) (n : Nat) (w : World) (hn : n ≤ 140737488355328) :
    Calls Tryd.prog 21 #[.slice (some ad) n n, .int .i64 n] w fun e w' => e = .returned (.tuple #[.slice none 0 0, .int .i64 0, .int .i64 10]) ∧ w' = w := by
  have d1 : decide ((n : Int) < n) = false := decide_eq_false (by omega)
  go_enter Tryd.func21, Tryd.ntmps21
  go_wp2_with fail
  go_ret3
  exact ⟨rfl, rfl⟩
set_option maxRecDepth 100000 in
theorem Open_short (ad : Addr) (n cap k : Nat) (w : World) (hn : n ≤ 140737488355328) (hcap : n ≤ cap) (hcap2 : cap ≤ 9223372036854775807) (hk : k ≤ n) (h2 : n < k + 2) (hne : ¬ cap = k) :
    Calls Tryd.prog 21 #[.slice (some ad) n cap, .int .i64 k] w fun e w' => e = .returned (.tuple #[.slice none 0 0, .int .i64 0, .int .i64 10]) ∧ w' = w := by
  have d1 : decide ((n : Int) < k) = false := decide_eq_false (by omega)
  have d1' : decide (n < k) = false := decide_eq_false (by omega)
  have d2 : decide (((n - k : Nat) : Int) < 2) = true := decide_eq_true (by omega)
  have d3 : decide ((n : Int) - (k : Int) < 2) = true := decide_eq_true (by omega)
  go_enter Tryd.func21, Tryd.ntmps21
  go_wp2_with fail
  go_ret3
  exact ⟨rfl, rfl⟩

set_option maxRecDepth 100000 in
set_option maxHeartbeats 1000000 in
theorem Open_head (b off n cap k : Nat) (x y : UInt8) (w : World) (hn : n ≤ 140737488355328) (hcap : n ≤ cap) (hcap2 : cap ≤ 9223372036854775807) (h2 : k + 2 ≤ n) (hx : w.cell? ⟨b, off + k, none⟩ = some (.int .u8 x.toNat)) (hy : w.cell? ⟨b, off + (k + 1), none⟩ = some (.int .u8 y.toNat)) (hne : y.toNat ≠ 255 - x.toNat) :
    Calls Tryd.prog 21 #[.slice (some ⟨b, off, none⟩) n cap, .int .i64 k] w fun e w' => e = .returned (.tuple #[.slice none 0 0, .int .i64 0, .int .i64 14]) ∧ ∃ q, w' = w.drewN q := by
  have hxl : x.toNat < 256 := by have := x.toNat_lt; omega
  have hyl : y.toNat < 256 := by have := y.toNat_lt; omega
  have d1 : decide ((n : Int) < k) = false := decide_eq_false (by omega)
  have d1' : decide (n < k) = false := decide_eq_false (by omega)
  have q1 : ¬ cap = k := by omega
  have hnb : bits BinOp.xor IntKind.u8 (if IntKind.u8.signed = true then -1 else IntKind.u8.max) (x.toNat : Int) = 255 - (x.toNat : Int) := not_byte (by omega)
  have d3 : ((y.toNat : Int) != 255 - (x.toNat : Int)) = true := by simp; omega
  rw [← Nat.add_assoc] at hy
  clear hne
  go_enter Tryd.func21, Tryd.ntmps21
  obtain ⟨m, em⟩ : ∃ m, n - k = m := ⟨_, rfl⟩
  have m2 : 2 ≤ m := by omega
  have d2 : decide ((m : Int) < 2) = false := decide_eq_false (by omega)
  go_wp2_with (first | rw [em])
  have i0 : (0 : Int) < (m : Int) := by omega
  have i1 : (1 : Int) < (m : Int) := by omega
  clear em
  go_quiet (fail)
  go_wp2_with fail
  go_ret3
  exact ⟨rfl, _, rfl⟩

set_option maxRecDepth 100000 in
set_option maxHeartbeats 1000000 in
theorem Open_tail (b off n cap k : Nat) (x y : UInt8) (w : World) (hn : n ≤ 140737488355328) (hcap : n ≤ cap) (hcap2 : cap ≤ 9223372036854775807) (h2 : k + 2 ≤ n) (hx : w.cell? ⟨b, off + k, none⟩ = some (.int .u8 x.toNat)) (hy : w.cell? ⟨b, off + (k + 1), none⟩ = some (.int .u8 y.toNat)) (heq : y.toNat = 255 - x.toNat) (hs : n < k + (x.toNat + 6)) :
    Calls Tryd.prog 21 #[.slice (some ⟨b, off, none⟩) n cap, .int .i64 k] w fun e w' => e = .returned (.tuple #[.slice none 0 0, .int .i64 0, .int .i64 10]) ∧ ∃ q, w' = w.drewN q := by
  have hxl : x.toNat < 256 := by have := x.toNat_lt; omega
  have hyl : y.toNat < 256 := by have := y.toNat_lt; omega
  have d1 : decide ((n : Int) < k) = false := decide_eq_false (by omega)
  have d1' : decide (n < k) = false := decide_eq_false (by omega)
  have q1 : ¬ cap = k := by omega
  have hnb : bits BinOp.xor IntKind.u8 (if IntKind.u8.signed = true then -1 else IntKind.u8.max) (x.toNat : Int) = 255 - (x.toNat : Int) := not_byte (by omega)
  have d3 : ((y.toNat : Int) != 255 - (x.toNat : Int)) = false := by simp; omega
  rw [← Nat.add_assoc] at hy
  go_enter Tryd.func21, Tryd.ntmps21
  obtain ⟨m, em⟩ : ∃ m, n - k = m := ⟨_, rfl⟩
  have m2 : 2 ≤ m := by omega
  have m3 : m < x.toNat + 6 := by omega
  have d2 : decide ((m : Int) < 2) = false := decide_eq_false (by omega)
  clear heq
  go_wp2_with (first | rw [em])
  have i0 : (0 : Int) < (m : Int) := by omega
  have i1 : (1 : Int) < (m : Int) := by omega
  clear em
  go_quiet (fail)
  have hx' : ∀ q, (w.drewN q).cell? ⟨b, off + k, none⟩ = some (.int .u8 x.toNat) := fun q => hx
  have d4 : decide ((m : Int) < 2 + (x.toNat : Int) + 4) = true := decide_eq_true (by omega)
  go_wp2_with fail
  go_ret3
  exact ⟨rfl, _, rfl⟩
end Go.Proofs.YtjhfgajhmenboaaDoor
