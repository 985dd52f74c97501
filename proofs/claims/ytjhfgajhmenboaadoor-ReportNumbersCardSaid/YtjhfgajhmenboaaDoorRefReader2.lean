/-
  Contracts: Byte, Text and End of the document's own Reader.
-/
import Derived.Test.YtjhfgajhmenboaaDoorRefReader
namespace Go.Proofs.YtjhfgajhmenboaaDoor
open Go.RowKit
set_option linter.unusedVariables false
set_option linter.unusedSimpArgs false

/-- What Byte reads. -/
def headN (l : List UInt8) : Nat := (l.getD 0 0).toNat
theorem headN_le (l : List UInt8) : headN l ≤ 255 := by unfold headN; have := (l.getD 0 0).toNat_lt; omega
theorem headN_nil : headN [] = 0 := by decide
theorem headN_one (x : UInt8) : headN [x] = x.toNat := by unfold headN; simp
/-- What End answers. -/
def rdEnd (l : List UInt8) (k y : Nat) : Nat := if 0 < y then y else if k < l.length then 15 else 0
theorem rdEnd_bad {l : List UInt8} {k y : Nat} (h : 0 < y) : rdEnd l k y = y := if_pos h
theorem rdEnd_left {l : List UInt8} {k : Nat} (h : k < l.length) : rdEnd l k 0 = 15 := by unfold rdEnd; rw [if_neg (by omega), if_pos h]
theorem rdEnd_all {l : List UInt8} {k : Nat} (h : ¬ k < l.length) : rdEnd l k 0 = 0 := by unfold rdEnd; rw [if_neg (by omega), if_neg h]
theorem rdTake_len (l : List UInt8) (k y m : Nat) : (rdTake l k y m).1.length ≤ m := by
  unfold rdTake
  split
  · simp
  · split
    · simp
    · rw [List.length_take]; omega
theorem rdTake_place (l : List UInt8) (k y m : Nat) (h : k ≤ l.length) : (rdTake l k y m).2.1 ≤ l.length := by
  unfold rdTake
  split
  · exact h
  · split
    · exact h
    · show k + m ≤ l.length; omega
theorem rdTake_num (l : List UInt8) (k y m : Nat) : (rdTake l k y m).2.2 = y ∨ (rdTake l k y m).2.2 = 10 := by
  unfold rdTake
  split
  · exact .inl rfl
  · split
    · exact .inr rfl
    · exact .inl (by show 0 = y; omega)
theorem rdTake_none {k y m : Nat} (hm : 0 < m) : 0 < (rdTake [] k y m).2.2 := by
  unfold rdTake
  split
  · assumption
  · rw [if_pos (by simp; omega)]; show 0 < 10; omega

set_option maxRecDepth 100000 in
set_option maxHeartbeats 1000000 in
theorem RByte_any (c : Nat) (A : Option Addr) (n cap : Nat) (l : List UInt8) (k y : Nat) (w : World) (h : Hid (Rd c A n cap l k y w)) :
    Calls Tryd.prog 46 #[.pointer (some ⟨c, 0, none⟩)] w fun e w' => e = .returned (.int .i64 (headN (rdTake l k y 1).1)) ∧
      Rd c A n cap l (rdTake l k y 1).2.1 (rdTake l k y 1).2.2 w' ∧ w.grownBy w' (some c) := by
  have hlen := rdTake_len l k y 1
  obtain ⟨T, eT⟩ : ∃ T, (rdTake l k y 1).1 = T := ⟨_, rfl⟩
  obtain ⟨k', ek⟩ : ∃ k', (rdTake l k y 1).2.1 = k' := ⟨_, rfl⟩
  obtain ⟨y', ey⟩ : ∃ y', (rdTake l k y 1).2.2 = y' := ⟨_, rfl⟩
  have hT := Take_any c A n cap l k y 1 w h (by omega) (fun _ => .inl (by omega))
  rw [eT, ek, ey] at hT ⊢
  rw [eT] at hlen
  have hT := Lib.hid hT
  clear eT ek ey
  have hw : T = [] ∨ ∃ x, T = [x] := by
    match T, hlen with
    | [], _ => exact .inl rfl
    | [x], _ => exact .inr ⟨x, rfl⟩
  rcases hw with rfl | ⟨x, rfl⟩
  · rw [headN_nil]
    go_enter Tryd.func46, Tryd.ntmps46
    go_wp2_with fail
    refine hT.out.mono ?_
    rintro e w1 ⟨A1, c1, rfl, H1, R1, G1⟩
    have R1 := Lib.hid R1
    have G1 := Lib.hid G1
    go_wp2_with fail
    go_ret
    exact ⟨rfl, R1.out, G1.out⟩
  · rw [headN_one]
    have hx : x.toNat < 256 := by have := x.toNat_lt; omega
    go_enter Tryd.func46, Tryd.ntmps46
    go_wp2_with fail
    refine hT.out.mono ?_
    rintro e w1 ⟨A1, c1, rfl, H1, R1, G1⟩
    have R1 := Lib.hid R1
    have G1 := Lib.hid G1
    obtain ⟨b, off, rfl, hc⟩ := H1.2 (by simp)
    have hcell := hc 0 (by simp)
    unfold bc at hcell
    rw [Nat.add_zero, show [x].getD 0 0 = x from rfl] at hcell
    clear hc
    go_wp2_with fail
    go_ret
    exact ⟨rfl, R1.out, G1.out⟩

set_option maxRecDepth 100000 in
set_option maxHeartbeats 1000000 in
theorem REnd_go (c : Nat) (A : Option Addr) (n cap k y v : Nat) (w : World) (h : Hid (RdAt c A n cap k y w)) (hk : k ≤ n) (hn : n ≤ 140737488355328) (hy : y ≤ 1000) (hv : (0 < y ∧ v = y) ∨ (y = 0 ∧ k < n ∧ v = 15) ∨ (y = 0 ∧ n ≤ k ∧ v = 0)) :
    Calls Tryd.prog 48 #[.pointer (some ⟨c, 0, none⟩)] w fun e w' => e = .returned (.int .i64 v) ∧ ∃ q, w' = w.drewN q := by
  obtain ⟨c0, c1, c2, f1, f2⟩ := rd_cells h.out
  rcases hv with ⟨h0, rfl⟩ | ⟨rfl, hlt, rfl⟩ | ⟨rfl, hlt, rfl⟩
  · have i1 : ((v : Int) != 0) = true := by simp; omega
    clear h0
    go_enter Tryd.func48, Tryd.ntmps48
    go_wp2_with fail
    go_ret
    exact ⟨rfl, 0, rfl⟩
  · have i1 : (((0 : Nat) : Int) != 0) = false := by decide
    have d1 : decide ((k : Int) < (n : Int)) = true := decide_eq_true (by omega)
    go_enter Tryd.func48, Tryd.ntmps48
    go_wp2_with fail
    go_quiet (fail)
    go_wp2_with fail
    go_ret
    exact ⟨rfl, _, rfl⟩
  · have i1 : (((0 : Nat) : Int) != 0) = false := by decide
    have d1 : decide ((k : Int) < (n : Int)) = false := decide_eq_false (by omega)
    go_enter Tryd.func48, Tryd.ntmps48
    go_wp2_with fail
    go_quiet (fail)
    go_wp2_with fail
    go_ret
    exact ⟨rfl, _, rfl⟩
theorem REnd_any (c : Nat) (A : Option Addr) (n cap : Nat) (l : List UInt8) (k y : Nat) (w : World) (h : Hid (Rd c A n cap l k y w)) (hy : y ≤ 1000) :
    Calls Tryd.prog 48 #[.pointer (some ⟨c, 0, none⟩)] w fun e w' => e = .returned (.int .i64 (rdEnd l k y)) ∧ ∃ q, w' = w.drewN q := by
  refine REnd_go c A n cap k y _ w (Lib.hid h.out.at') h.out.kn h.out.nmax hy ?_
  have hl := h.out.hb.1
  by_cases h0 : 0 < y
  · exact .inl ⟨h0, rdEnd_bad h0⟩
  · obtain rfl : y = 0 := by omega
    by_cases hlt : k < n
    · exact .inr (.inl ⟨rfl, hlt, rdEnd_left (by omega)⟩)
    · exact .inr (.inr ⟨rfl, by omega, rdEnd_all (by omega)⟩)

theorem HB.string {w : World} {A : Option Addr} {l : List UInt8} (h : HB w A l.length l) (c : Nat) :
    (convert 26 9 (.slice A l.length c)).run Tryd.prog w = .ok (.string (str l)) w := by
  by_cases h0 : 0 < l.length
  · obtain ⟨b, off, rfl, hc⟩ := h.2 h0
    refine run_convert_bytes_back (P := Tryd.prog) w 26 9 5 ⟨b, off, none⟩ c l Tryd.underlying26 Tryd.underlying5 Tryd.underlying9 (fun j hj => ?_)
    rw [WideShapes.add_plain, hc j hj]
    unfold bc
    simp [List.getD, List.getElem?_eq_getElem hj]
  · have e : l = [] := List.eq_nil_of_length_eq_zero (by omega)
    subst e
    cases A with
    | none =>
      show (convert 26 9 (.slice none 0 c)).run Tryd.prog w = _
      rw [run_convert_bytes_string w 26 9 5 none 0 c Tryd.underlying26 Tryd.underlying5 Tryd.underlying9]
      simp [Conv.bytesToString]
      rfl
    | some ad =>
      exact run_convert_bytes_back (P := Tryd.prog) w 26 9 5 ad c [] Tryd.underlying26 Tryd.underlying5 Tryd.underlying9 (fun j hj => absurd hj (by simp))

/-- What Text reads. -/
def rdText (l : List UInt8) (k y : Nat) : List UInt8 × Nat × Nat := rdTake l (rdTake l k y 1).2.1 (rdTake l k y 1).2.2 (headN (rdTake l k y 1).1)
end Go.Proofs.YtjhfgajhmenboaaDoor
