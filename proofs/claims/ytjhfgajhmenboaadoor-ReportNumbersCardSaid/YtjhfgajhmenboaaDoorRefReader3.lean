/-
  Contract: Long of the document's own Reader.
-/
import Derived.Test.YtjhfgajhmenboaaDoorRefReader2
import Derived.Laws.BitsAllLaws
namespace Go.Proofs.YtjhfgajhmenboaaDoor
open Go.RowKit
set_option linter.unusedVariables false
set_option linter.unusedSimpArgs false

/-- The number of some bytes, the lowest first. -/
def numL : List UInt8 → Nat
  | [] => 0
  | b :: l => b.toNat + 256 * numL l
theorem numL_append (l m : List UInt8) : numL (l ++ m) = numL l + 256 ^ l.length * numL m := by
  induction l with
  | nil => simp [numL]
  | cons b l ih =>
    simp only [List.cons_append, numL, ih, List.length_cons, Nat.pow_succ]
    rw [Nat.mul_add, ← Nat.mul_assoc, Nat.mul_comm 256 (256 ^ l.length)]
    omega
theorem numL_lt (l : List UInt8) : numL l < 256 ^ l.length := by
  induction l with
  | nil => simp [numL]
  | cons b l ih =>
    have := b.toNat_lt
    simp only [numL, List.length_cons, Nat.pow_succ]
    omega
theorem numL_take (l : List UInt8) (k : Nat) (h : k < l.length) : numL (l.take (k + 1)) = numL (l.take k) + (l.getD k 0).toNat * 2 ^ (8 * k) := by
  have e : l.getD k 0 = l[k] := by simp [List.getD, List.getElem?_eq_getElem h]
  rw [List.take_add_one, numL_append, e, List.getElem?_eq_getElem h, List.length_take, Nat.min_eq_left (by omega), Nat.pow_mul]
  simp [numL, Nat.mul_comm]
theorem numL_take_lt (l : List UInt8) (k : Nat) (h : k ≤ l.length) : numL (l.take k) < 2 ^ (8 * k) := by
  have := numL_lt (l.take k)
  rw [List.length_take, Nat.min_eq_left h] at this
  rw [Nat.pow_mul]; exact this
theorem or_add64 {a b i : Nat} (h : a < 2 ^ i) : a ||| b * 2 ^ i = a + b * 2 ^ i := by
  have := Nat.two_pow_add_eq_or_of_lt h b
  rw [Nat.or_comm, Nat.mul_comm b, ← this, Nat.add_comm]

theorem or_long {u x j : Nat} (hj : j < 8) (hu : u < 2 ^ (8 * j)) (hx : x < 256) : bits .or .u64 (u : Int) (IntKind.u64.wrap ((x : Int) * 2 ^ (8 * j))) = ((u + x * 2 ^ (8 * j) : Nat) : Int) := by
  have h1 : 2 ^ (8 * j) ≤ 2 ^ 56 := Nat.pow_le_pow_right (by omega) (by omega)
  have h2 : x * 2 ^ (8 * j) ≤ 255 * 2 ^ 56 := Nat.mul_le_mul (by omega) h1
  have e : (x : Int) * 2 ^ (8 * j) = ((x * 2 ^ (8 * j) : Nat) : Int) := by rw [Int.natCast_mul, Int.natCast_pow]; rfl
  rw [e]
  generalize hv : x * 2 ^ (8 * j) = v at *
  rw [IntKind.wrap_u64, Int.emod_eq_of_lt (by omega) (by omega)]
  rw [u64_or_nat u v (by omega) (by omega), ← hv, or_add64 hu]
set_option maxRecDepth 100000 in
set_option maxHeartbeats 1000000 in
theorem RLong_go (c : Nat) (A : Option Addr) (n cap : Nat) (l T : List UInt8) (k y k' y' : Nat) (w : World) (hlen : T.length = 0 ∨ T.length = 8)
    (hT : Hid (Calls Tryd.prog 54 #[.pointer (some ⟨c, 0, none⟩), .int .i64 ((8 : Nat) : Int)] w fun e w' => ∃ A' c', e = .returned (.slice A' T.length c') ∧ HB w' A' T.length T ∧ Rd c A n cap l k' y' w' ∧ w.grownBy w' (some c))) :
    Calls Tryd.prog 47 #[.pointer (some ⟨c, 0, none⟩)] w fun e w' => e = .returned (.int .i64 (wrap64 (numL T))) ∧ Rd c A n cap l k' y' w' ∧ w.grownBy w' (some c) := by
  go_enter Tryd.func47, Tryd.ntmps47
  go_wp2_with fail
  refine hT.out.mono ?_
  rintro e w1 ⟨A1, c1, rfl, H1, R1, G1⟩
  have R1 := Lib.hid R1
  have G1 := Lib.hid G1
  have H1 := Lib.hid H1
  obtain ⟨z, ez⟩ : ∃ z, T.length = z := ⟨_, rfl⟩
  rw [ez] at H1 ⊢
  have hz : z ≤ 8 := by omega
  clear hlen
  go_wp2_with fail
  go_loopw [4, 5] (fun s i wr => ∃ j : Nat, s = .int .u64 (numL (T.take j)) ∧ i = .int .i64 j ∧ j ≤ z ∧ wr = w1) (fun _ i _ => (z - intOf i).toNat)
  case atStart => exact ⟨0, rfl, rfl, by omega, rfl⟩
  case round =>
    obtain ⟨j, rfl, rfl, hj, rfl⟩ := hrel
    by_cases hlt : j < z
    · have d1 : decide ((j : Int) < (z : Int)) = true := decide_eq_true (by omega)
      obtain ⟨b, off, rfl, hc⟩ := H1.out.2 (by omega)
      have hcell := hc j hlt
      clear hc
      unfold bc at hcell
      have hnx := Lib.hid (numL_take T j (by omega))
      have hlo := numL_take_lt T j (by omega)
      obtain ⟨u, eu⟩ : ∃ u, numL (T.take j) = u := ⟨_, rfl⟩
      obtain ⟨x, ex⟩ : ∃ x, T.getD j 0 = x := ⟨_, rfl⟩
      rw [eu, ex] at hnx
      rw [eu] at hlo ⊢
      rw [ex] at hcell
      have hx : x.toNat < 256 := by have := x.toNat_lt; omega
      clear eu ex
      have hor := Lib.hid (or_long (u := u) (x := x.toNat) (j := j) (by omega) hlo hx)
      go_wp2_with fail
      go_roundw
      case rel => exact ⟨j + 1, by rw [hor.out, hnx.out], by go_num, by omega, by first | trivial | rfl⟩
      case measure => simp [intOf]; omega
    · obtain rfl : j = z := by omega
      have d1 : decide ((j : Int) < (j : Int)) = false := decide_eq_false (by omega)
      have hall := Lib.hid (show T.take j = T from List.take_of_length_le (by omega))
      rw [hall.out]
      go_wp2_with fail
      go_ret
      exact ⟨rfl, R1.out, G1.out⟩
theorem RLong_any (c : Nat) (A : Option Addr) (n cap : Nat) (l : List UInt8) (k y : Nat) (w : World) (h : Hid (Rd c A n cap l k y w)) :
    Calls Tryd.prog 47 #[.pointer (some ⟨c, 0, none⟩)] w fun e w' => e = .returned (.int .i64 (wrap64 (numL (rdTake l k y 8).1))) ∧
      Rd c A n cap l (rdTake l k y 8).2.1 (rdTake l k y 8).2.2 w' ∧ w.grownBy w' (some c) := by
  refine RLong_go c A n cap l _ k y _ _ w ?_ (Lib.hid (Take_any c A n cap l k y 8 w h (by omega) (fun _ => .inl (by omega))))
  unfold rdTake
  split
  · exact .inl rfl
  · split
    · exact .inl rfl
    · right; show ((l.drop k).take 8).length = 8; rw [List.length_take, List.length_drop]; omega
end Go.Proofs.YtjhfgajhmenboaaDoor
