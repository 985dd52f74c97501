/-
  Contract: Open, of the program, for whatever bytes and place.
-/
import Derived.Test.YtjhfgajhmenboaaDoorOpen2
namespace Go.Proofs.YtjhfgajhmenboaaDoor
open Go.RowKit
set_option linter.unusedVariables false
set_option linter.unusedSimpArgs false

theorem four_win (l : List UInt8) (i : Nat) (h : i + 4 ≤ l.length) : (l.drop i).take 4 = [l.getD i 0, l.getD (i + 1) 0, l.getD (i + 2) 0, l.getD (i + 3) 0] := by
  refine list_same (n := 4) (by rw [List.length_take, List.length_drop]; omega) rfl ?_
  intro j hj
  have e : ((l.drop i).take 4).getD j 0 = l.getD (i + j) 0 := by simp [List.getD, hj]
  rw [e]
  match j, hj with
  | 0, _ | 1, _ | 2, _ | 3, _ => rfl
theorem numL_four (x y z t : UInt8) : numL [x, y, z, t] = four x y z t := by
  unfold four; simp only [numL]; omega

theorem Open_any (A : Option Addr) (n cap : Nat) (l : List UInt8) (i : Int) (w : World) (hn : n ≤ 140737488355328) (hcap : n ≤ cap) (hcap2 : cap ≤ 9223372036854775807) (hA : A = none → cap = 0) (h : Hid (HB w A n l)) :
    Calls Tryd.prog 21 #[.slice A n cap, .int .i64 i] w fun e w' => ∃ v, e = .returned (.tuple #[v, .int .i64 ((openR l i).2.1 : Nat), .int .i64 ((openR l i).2.2 : Nat)]) ∧ RB w' w.heap.size v (openR l i).1 ∧ Below w.heap.size w w' := by
  have hl := h.out.1
  by_cases hi : i < 0 ∨ (n : Int) < i
  · rw [openR_arg (by rw [hl]; exact hi)]
    refine (Open_arg A n cap i w hn hi).mono ?_
    rintro e w' ⟨rfl, rfl⟩
    exact ⟨_, rfl, rb_nil _ _, Below.refl _ _⟩
  · obtain ⟨k, rfl⟩ : ∃ k : Nat, i = (k : Int) := ⟨i.toNat, by omega⟩
    have hk : k ≤ n := by omega
    rw [openR_at (by omega)]
    by_cases h2 : n < k + 2
    · rw [openN_short (by omega)]
      cases A with
      | none =>
        obtain rfl := hA rfl
        obtain rfl : n = 0 := by omega
        obtain rfl : k = 0 := by omega
        refine (Open_short_nil w).mono ?_
        rintro e w' ⟨rfl, rfl⟩
        exact ⟨_, rfl, rb_nil _ _, Below.refl _ _⟩
      | some ad =>
        by_cases hck : cap = k
        · obtain rfl : n = cap := by omega
          subst hck
          refine (Open_short_end ad n w hn).mono ?_
          rintro e w' ⟨rfl, rfl⟩
          exact ⟨_, rfl, rb_nil _ _, Below.refl _ _⟩
        · refine (Open_short ad n cap k w hn hcap hcap2 hk h2 hck).mono ?_
          rintro e w' ⟨rfl, rfl⟩
          exact ⟨_, rfl, rb_nil _ _, Below.refl _ _⟩
    · obtain ⟨b, off, rfl, hc⟩ := h.out.2 (by omega)
      have hx := hc k (by omega)
      have hy := hc (k + 1) (by omega)
      clear hc
      obtain ⟨x, ex⟩ : ∃ x, l.getD k 0 = x := ⟨_, rfl⟩
      obtain ⟨y, ey⟩ : ∃ y, l.getD (k + 1) 0 = y := ⟨_, rfl⟩
      rw [ex] at hx
      rw [ey] at hy
      unfold bc at hx hy
      by_cases hne : y.toNat = 255 - x.toNat
      · by_cases hs : n < k + (x.toNat + 6)
        · rw [openN_tail (by omega) ex ey hne (by omega)]
          refine (Open_tail b off n cap k x y w hn hcap hcap2 (by omega) hx hy hne hs).mono ?_
          rintro e w' ⟨rfl, q, rfl⟩
          exact ⟨_, rfl, rb_nil _ _, below_drewN (Below.refl _ _) q⟩
        · have hz := Lib.hid (h.out.win (i := k + 2) (m := x.toNat) (by omega))
          have hT := h.out.win (i := k + 2 + x.toNat) (m := 4) (by omega)
          rw [four_win l _ (by omega)] at hT
          have hT := Lib.hid hT
          by_cases hcr : crcL ((l.drop (k + 2)).take x.toNat) = four (l.getD (k + 2 + x.toNat) 0) (l.getD (k + 2 + x.toNat + 1) 0) (l.getD (k + 2 + x.toNat + 2) 0) (l.getD (k + 2 + x.toNat + 3) 0)
          · rw [openN_yes ex ey hne (by omega) hcr]
            exact Open_yes b off n cap k _ _ x y _ _ w hn hcap hcap2 hx hy hne (by omega) hz hT (Lib.hid rfl) (Lib.hid (numL_four _ _ _ _)) hcr.symm (crcL_lt _) (four_lt _ _ _ _)
          · rw [openN_sum ex ey hne (by omega) hcr]
            refine (Open_sum b off n cap k _ _ x y _ _ w hn hcap hcap2 hx hy hne (by omega) hz hT (Lib.hid rfl) (Lib.hid (numL_four _ _ _ _)) (fun e => hcr e.symm) (crcL_lt _) (four_lt _ _ _ _)).mono ?_
            rintro e w' ⟨rfl, q, rfl⟩
            exact ⟨_, rfl, rb_nil _ _, below_drewN (Below.refl _ _) q⟩
      · rw [openN_head (by omega) ex ey hne]
        refine (Open_head b off n cap k x y w hn hcap hcap2 (by omega) hx hy hne).mono ?_
        rintro e w' ⟨rfl, q, rfl⟩
        exact ⟨_, rfl, rb_nil _ _, below_drewN (Below.refl _ _) q⟩
end Go.Proofs.YtjhfgajhmenboaaDoor
