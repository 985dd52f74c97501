/-
  Contracts: appendNumber and number, of the program.
-/
import Derived.Test.YtjhfgajhmenboaaDoorOnly
namespace Go.Proofs.YtjhfgajhmenboaaDoor
open Go.RowKit
set_option linter.unusedVariables false
set_option linter.unusedSimpArgs false

theorem Only.alloc {p : Nat → Prop} {a w : World} (h : Only p a w) (o : Obj) : Only p a (w.alloc o) :=
  h.step (only_below ((Below.refl _ w).alloc (Nat.le_refl _) o)) (fun _ _ e => e.elim)
/-- A row that comes of an own row: the same block, or a new one. -/
def From (w : World) (v v' : Value) : Prop := ∀ k, v'.ownBlock = some k → v.ownBlock = some k ∨ w.heap.size ≤ k
theorem From.refl (w : World) (v : Value) : From w v v := fun k h => .inl h
theorem from_step {w w1 : World} {v v1 v2 : Value} (h : From w v v1) (hs : w.heap.size ≤ w1.heap.size) (h2 : v2.ownBlock = v1.ownBlock ∨ v2.ownBlock = some w1.heap.size) : From w v v2 := by
  intro k hk
  rcases h2 with e | e
  · rw [e] at hk; exact h k hk
  · rw [e] at hk; injection hk with hk; right; omega

set_option maxRecDepth 100000 in
set_option maxHeartbeats 1000000 in
theorem AppendNumber_any (base : Nat) (v : Value) (xs : List UInt8) (U m : Nat) (w : World) (hown : Hid (RB w base v xs)) (hlen : xs.length ≤ 140000000000000) (hm : m ≤ 8) (hU : U < 18446744073709551616) (hb : base ≤ w.heap.size) :
    Calls Tryd.prog 42 #[v, .int .u64 U, .int .i64 m] w fun e w' => ∃ v', e = .returned v' ∧ RB w' base v' (xs ++ longTo U m) ∧ Only (fun k => some k = v.ownBlock) w w' ∧ From w v v' := by
  obtain ⟨i0, hi0, hz0, hz1, hz2⟩ := info_parts info_u8
  have O0 := Lib.hid (Only.refl (fun k => some k = v.ownBlock) w)
  have F0 := Lib.hid (From.refl w v)
  have hlen' := Lib.hid hlen
  go_enter Tryd.func42, Tryd.ntmps42
  go_wp2_with fail
  go_loopw [0, 1, 8] (fun s u i wr => ∃ j : Nat, u = .int .u64 ((U / 2 ^ (8 * j) : Nat) : Int) ∧ i = .int .i64 j ∧ j ≤ m ∧ Hid (RB wr base s (xs ++ longTo U j)) ∧ Hid (Only (fun k => some k = v.ownBlock) w wr) ∧ Hid (From w v s)) (fun _ _ i _ => m - (intOf i).toNat)
  case atStart => exact ⟨0, by simp, rfl, by omega, Lib.hid (by simpa [longTo] using hown.out), O0, F0⟩
  case round =>
    obtain ⟨j, rfl, rfl, hj, hR, hO, hF⟩ := hrel
    by_cases hlt : j < m
    · have d1 : decide ((j : Int) < (m : Int)) = true := decide_eq_true (by omega)
      have hnx := Lib.hid (longTo_next U j)
      have hsh := Lib.hid (show U / 2 ^ (8 * (j + 1)) = U / 2 ^ (8 * j) / 256 by rw [Nat.div_div_eq_div_mul, show 2 ^ (8 * (j + 1)) = 2 ^ (8 * j) * 256 by rw [Nat.mul_add, Nat.pow_add]])
      have hul : U / 2 ^ (8 * j) < 18446744073709551616 := Nat.lt_of_le_of_lt (Nat.div_le_self _ _) hU
      obtain ⟨u, eu⟩ : ∃ u, U / 2 ^ (8 * j) = u := ⟨_, rfl⟩
      rw [eu] at hnx hsh hul
      rw [eu]
      clear eu
      have hx := byte_nat' u
      obtain ⟨x, ex⟩ : ∃ x, UInt8.ofNat (u % 256) = x := ⟨_, rfl⟩
      rw [ex] at hnx hx
      have hx2 : (u : Int) % 256 = (x.toNat : Int) := by omega
      clear ex hx
      have H1 := Lib.hid (hR.out.alloc (.cells #[.int .u8 x.toNat] 5))
      have S1 := Lib.hid (hb_one wr x)
      have hO1 := Lib.hid (hO.out.alloc (.cells #[.int .u8 x.toNat] 5))
      have hll : (xs ++ longTo U j).length = xs.length + j := by rw [List.length_append, longTo_len]
      have bz := hO.out.size
      go_wp2_with (at_builtin; refine wpList_onto_b (by rfl) (.tmp 10) (.tmp 13) 26 (by rfl) base i0 Tryd.underlying26 hi0 hz0 hz1 hz2 _ _ (by rfl) H1.out _ 1 1 _ (by rfl) S1.out (fun e => by cases e) (by rw [hll]; omega) (by simp; omega) ?_)
      intro r2 w2 h2 g2 o2
      have F2 := Lib.hid (from_step hF.out hO1.out.size (by simpa using o2))
      have O2 := Lib.hid (hO1.out.step (only_grown g2) (fun i hi e => by
        rcases hF.out i e.symm with h | h
        · exact h.symm
        · omega))
      have h2 := Lib.hid h2
      clear g2 o2
      go_wp2_with fail
      go_roundw
      case rel => exact ⟨j + 1, by rw [hsh.out]; rfl, by go_num, by omega, Lib.hid (by rw [hnx.out]; have := h2.out; simpa only [List.append_assoc] using this), O2, F2⟩
      case measure => simp [intOf]; omega
    · obtain rfl : j = m := by omega
      have d1 : decide ((j : Int) < (j : Int)) = false := decide_eq_false (by omega)
      go_wp2_with fail
      go_ret
      exact ⟨_, rfl, hR.out, hO.out, hF.out⟩

set_option maxRecDepth 100000 in
set_option maxHeartbeats 1000000 in
theorem Number_any (A : Option Addr) (z cap : Nat) (T : List UInt8) (w : World) (hz : z ≤ 8) (h : Hid (HB w A z T)) :
    Calls Tryd.prog 39 #[.slice A z cap] w fun e w' => e = .returned (.int .u64 (numL T)) ∧ w' = w := by
  go_enter Tryd.func39, Tryd.ntmps39
  go_wp2_with fail
  go_loop [3, 8] (fun s i => ∃ j : Nat, s = .int .u64 (numL (T.take j)) ∧ i = .int .i64 j ∧ j ≤ z) (fun _ i => (z - intOf i).toNat)
  case atStart => exact ⟨0, rfl, rfl, by omega⟩
  case round =>
    obtain ⟨j, rfl, rfl, hj⟩ := hrel
    by_cases hlt : j < z
    · have d1 : decide ((j : Int) < (z : Int)) = true := decide_eq_true (by omega)
      obtain ⟨b, off, rfl, hc⟩ := h.out.2 (by omega)
      have hcell := hc j hlt
      clear hc
      unfold bc at hcell
      have hnx := Lib.hid (numL_take T j (by rw [h.out.1]; omega))
      have hlo := numL_take_lt T j (by rw [h.out.1]; omega)
      obtain ⟨u, eu⟩ : ∃ u, numL (T.take j) = u := ⟨_, rfl⟩
      obtain ⟨x, ex⟩ : ∃ x, T.getD j 0 = x := ⟨_, rfl⟩
      rw [eu, ex] at hnx
      rw [eu] at hlo ⊢
      rw [ex] at hcell
      have hx : x.toNat < 256 := by have := x.toNat_lt; omega
      clear eu ex
      have hor := Lib.hid (or_long (u := u) (x := x.toNat) (j := j) (by omega) hlo hx)
      go_wp2_with fail
      go_round
      case rel => exact ⟨j + 1, by rw [hnx.out, ← hor.out], by go_num, by omega⟩
      case measure => simp [intOf]; omega
    · obtain rfl : j = z := by omega
      have d1 : decide ((j : Int) < (j : Int)) = false := decide_eq_false (by omega)
      have hall := Lib.hid (show T.take j = T from List.take_of_length_le (by rw [h.out.1]; omega))
      rw [hall.out]
      go_wp2_with fail
      go_ret
      exact ⟨rfl, rfl⟩
end Go.Proofs.YtjhfgajhmenboaaDoor
