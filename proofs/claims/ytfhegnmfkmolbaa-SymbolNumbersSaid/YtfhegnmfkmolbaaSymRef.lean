/-
  Contracts: Parse and ParseSpread of the document's own answer.
-/
import Derived.Test.YtfhegnmfkmolbaaSymParse
namespace Go.Proofs.Ytfhegnmfkmolbaa
open Go.RowKit
set_option linter.unusedVariables false
set_option linter.unusedSimpArgs false

set_option maxRecDepth 100000 in
theorem RefParse_short (l : List UInt8) (w : World) (hl : l.length < 4) :
    Calls Try.prog 21 #[.string (str l)] w fun e w' => e = .returned (.tuple #[.string (str []), .int .i64 0, .int .i64 12]) ∧ Below w.heap.size w w' := by
  have hz : (str l).size < 4 := by rw [str_size]; exact hl
  go_enter Try.func21, Try.ntmps21
  go_wp2
  go_ret3
  exact ⟨rfl, Below.refl _ _⟩

/-- The last three bytes of a text. -/
structure Ends (l p : List UInt8) (q : Nat) (c d e : UInt8) : Prop where
  size : (str l).size = q + 3
  one : ∀ h : q + 2 < (str l).size, (str l)[q + 2] = e
  two : ∀ h : q + 1 < (str l).size, (str l)[q + 1] = d
  three : ∀ h : q < (str l).size, (str l)[q] = c
  ext : (str l).extract 0 q = str p
theorem ends_of (p : List UInt8) (c d e : UInt8) : Ends (p ++ [c, d, e]) p p.length c d e := by
  have g : ∀ (i : Nat) (h : i < (str (p ++ [c, d, e])).size), (str (p ++ [c, d, e]))[i] = (p ++ [c, d, e]).getD i 0 := by
    intro i h
    have h2 : i < (p ++ [c, d, e]).length := h
    rw [List.getD_eq_getElem?_getD, List.getElem?_eq_getElem h2]
    rfl
  refine ⟨by rw [str_size, List.length_append]; rfl, fun h => ?_, fun h => ?_, fun h => ?_, ?_⟩
  · rw [g]; simp [List.getD_eq_getElem?_getD, List.getElem?_append]
  · rw [g]; simp [List.getD_eq_getElem?_getD, List.getElem?_append]
  · rw [g]; simp [List.getD_eq_getElem?_getD, List.getElem?_append]
  · rw [ext_to, List.take_left' rfl]

set_option maxRecDepth 100000 in
set_option maxHeartbeats 1000000 in
theorem RefParse_e1 (l p : List UInt8) (q : Nat) (c d e : UInt8) (w : World) (hq : 1 ≤ q) (hq2 : q ≤ 140737488355328) (E : Ends l p q c d e) (he : e.toNat < 48) :
    Calls Try.prog 21 #[.string (str l)] w fun e w' => e = .returned (.tuple #[.string (str []), .int .i64 0, .int .i64 12]) ∧ Below w.heap.size w w' := by
  have hz := E.size
  have g1 := E.one
  have g2 := E.two
  have t1 : decide ((e.toNat : Int) < 48) = true := decide_eq_true (by omega)
  go_enter Try.func21, Try.ntmps21
  go_wp2
  go_ret3
  exact ⟨rfl, Below.refl _ _⟩
set_option maxRecDepth 100000 in
set_option maxHeartbeats 1000000 in
theorem RefParse_e2 (l p : List UInt8) (q : Nat) (c d e : UInt8) (w : World) (hq : 1 ≤ q) (hq2 : q ≤ 140737488355328) (E : Ends l p q c d e) (he : 57 < e.toNat) :
    Calls Try.prog 21 #[.string (str l)] w fun e w' => e = .returned (.tuple #[.string (str []), .int .i64 0, .int .i64 12]) ∧ Below w.heap.size w w' := by
  have hz := E.size
  have g1 := E.one
  have g2 := E.two
  have t1 : decide ((e.toNat : Int) < 48) = false := decide_eq_false (by omega)
  have t2 : decide (57 < (e.toNat : Int)) = true := decide_eq_true (by omega)
  go_enter Try.func21, Try.ntmps21
  go_wp2
  go_ret3
  exact ⟨rfl, Below.refl _ _⟩
set_option maxRecDepth 100000 in
set_option maxHeartbeats 1000000 in
theorem RefParse_d1 (l p : List UInt8) (q : Nat) (c d e : UInt8) (w : World) (hq : 1 ≤ q) (hq2 : q ≤ 140737488355328) (E : Ends l p q c d e) (he1 : 48 ≤ e.toNat) (he2 : e.toNat ≤ 57) (hd : d.toNat < 48) :
    Calls Try.prog 21 #[.string (str l)] w fun e w' => e = .returned (.tuple #[.string (str []), .int .i64 0, .int .i64 12]) ∧ Below w.heap.size w w' := by
  have hz := E.size
  have g1 := E.one
  have g2 := E.two
  have t1 : decide ((e.toNat : Int) < 48) = false := decide_eq_false (by omega)
  have t2 : decide (57 < (e.toNat : Int)) = false := decide_eq_false (by omega)
  have t3 : decide ((d.toNat : Int) < 48) = true := decide_eq_true (by omega)
  clear he1 he2
  go_enter Try.func21, Try.ntmps21
  go_wp2
  go_ret3
  exact ⟨rfl, Below.refl _ _⟩
set_option maxRecDepth 100000 in
set_option maxHeartbeats 1000000 in
theorem RefParse_d2 (l p : List UInt8) (q : Nat) (c d e : UInt8) (w : World) (hq : 1 ≤ q) (hq2 : q ≤ 140737488355328) (E : Ends l p q c d e) (he1 : 48 ≤ e.toNat) (he2 : e.toNat ≤ 57) (hd : 57 < d.toNat) :
    Calls Try.prog 21 #[.string (str l)] w fun e w' => e = .returned (.tuple #[.string (str []), .int .i64 0, .int .i64 12]) ∧ Below w.heap.size w w' := by
  have hz := E.size
  have g1 := E.one
  have g2 := E.two
  have t1 : decide ((e.toNat : Int) < 48) = false := decide_eq_false (by omega)
  have t2 : decide (57 < (e.toNat : Int)) = false := decide_eq_false (by omega)
  have t3 : decide ((d.toNat : Int) < 48) = false := decide_eq_false (by omega)
  have t4 : decide (57 < (d.toNat : Int)) = true := decide_eq_true (by omega)
  clear he1 he2
  go_enter Try.func21, Try.ntmps21
  go_wp2
  go_ret3
  exact ⟨rfl, Below.refl _ _⟩
set_option maxRecDepth 100000 in
set_option maxHeartbeats 1000000 in
theorem RefParse_p (l p : List UInt8) (q : Nat) (c d e : UInt8) (w : World) (hq : 1 ≤ q) (hq2 : q ≤ 140737488355328) (E : Ends l p q c d e) (he1 : 48 ≤ e.toNat) (he2 : e.toNat ≤ 57) (hd1 : 48 ≤ d.toNat) (hd2 : d.toNat ≤ 57) (hp : Hid (prodB p = false)) (hpl : p.length ≤ 140737488355328) :
    Calls Try.prog 21 #[.string (str l)] w fun e w' => e = .returned (.tuple #[.string (str []), .int .i64 0, .int .i64 12]) ∧ Below w.heap.size w w' := by
  have hz := E.size
  have g1 := E.one
  have g2 := E.two
  have hx := Lib.hid E.ext
  have t1 : decide ((e.toNat : Int) < 48) = false := decide_eq_false (by omega)
  have t2 : decide (57 < (e.toNat : Int)) = false := decide_eq_false (by omega)
  have t3 : decide ((d.toNat : Int) < 48) = false := decide_eq_false (by omega)
  have t4 : decide (57 < (d.toNat : Int)) = false := decide_eq_false (by omega)
  clear he1 he2 hd1 hd2
  go_enter Try.func21, Try.ntmps21
  go_wp2_with fail
  rw [hx.out]
  refine (RefProduct_any p _ hpl).mono ?_
  rintro e w1 ⟨rfl, b⟩
  rw [hp.out]
  have B1 := Lib.hid b
  clear b
  go_wp2_with fail
  go_ret3
  exact ⟨rfl, B1.out⟩

set_option maxRecDepth 100000 in
set_option maxHeartbeats 4000000 in
theorem RefParse_m (l p : List UInt8) (q : Nat) (c d e : UInt8) (o : Option Nat) (w : World) (hq : 1 ≤ q) (hq2 : q ≤ 140737488355328) (E : Ends l p q c d e) (he1 : 48 ≤ e.toNat) (he2 : e.toNat ≤ 57) (hd1 : 48 ≤ d.toNat) (hd2 : d.toNat ≤ 57) (hp : Hid (prodB p = true)) (hpl : p.length ≤ 140737488355328) (ho : Hid (idx c.toNat = o)) :
    Calls Try.prog 21 #[.string (str l)] w fun x w' => x = .returned (match o with | some i => .tuple #[.string (str p), .int .i64 ((12 * (10 * (d.toNat - 48) + (e.toNat - 48)) + i : Nat) : Int), .int .i64 0] | none => .tuple #[.string (str []), .int .i64 0, .int .i64 12]) ∧ Below w.heap.size w w' := by
  have hz := E.size
  have g1 := E.one
  have g2 := E.two
  have g3 := E.three
  have hx := Lib.hid E.ext
  have t1 : decide ((e.toNat : Int) < 48) = false := decide_eq_false (by omega)
  have t2 : decide (57 < (e.toNat : Int)) = false := decide_eq_false (by omega)
  have t3 : decide ((d.toNat : Int) < 48) = false := decide_eq_false (by omega)
  have t4 : decide (57 < (d.toNat : Int)) = false := decide_eq_false (by omega)
  go_enter Try.func21, Try.ntmps21
  go_wp2_with fail
  rw [hx.out]
  refine (RefProduct_any p _ hpl).mono ?_
  rintro x w1 ⟨rfl, b⟩
  rw [hp.out]
  have B1 := Lib.hid b
  clear b
  go_wp2_with fail
  go_loopw [6] (fun s wr => ∃ m : Nat, m ≤ 12 ∧ s = .int .i64 m ∧ Hid (∀ j, j < m → (letters.getD j 0).toNat ≠ c.toNat) ∧ Hid (Below w.heap.size w wr)) (fun s _ => (12 - intOf s).toNat)
  case atStart => exact ⟨0, by omega, rfl, Lib.hid (fun j h => absurd h (Nat.not_lt_zero _)), B1⟩
  case round =>
    obtain ⟨m, hm, rfl, hj, hB⟩ := hrel
    by_cases hlt : m < 12
    · have hd : decide ((m : Int) < 12) = true := decide_eq_true (by omega)
      obtain ⟨lb, elb⟩ : ∃ lb, letters.getD m 0 = lb := ⟨_, rfl⟩
      have gm : ∀ h : m < (⟨#[70, 71, 72, 74, 75, 77, 78, 81, 85, 86, 88, 90]⟩ : ByteArray).size, (⟨#[70, 71, 72, 74, 75, 77, 78, 81, 85, 86, 88, 90]⟩ : ByteArray)[m] = lb := fun h => by rw [letter_at, elb]
      have zm : (⟨#[70, 71, 72, 74, 75, 77, 78, 81, 85, 86, 88, 90]⟩ : ByteArray).size = 12 := rfl
      by_cases hc : lb = c
      · have hi := idx_of (a := c.toNat) hlt (by rw [elb, hc])
        rw [ho.out] at hi
        subst hi
        subst hc
        clear elb
        have i1 : ((lb.toNat : Int) == (lb.toNat : Int)) = true := by simp
        go_wp2_with fail
        go_region
        go_wp2_with fail
        go_region
        go_wp2_with fail
        go_ret3
        have ev : ((12 * (10 * (d.toNat - 48) + (e.toNat - 48)) + m : Nat) : Int) = 12 * (10 * ((d.toNat : Int) - 48) + ((e.toNat : Int) - 48)) + (m : Int) := by omega
        refine ⟨?_, hB.out.drew.drew⟩
        show _ = Ending.returned (.tuple #[.string (str p), .int .i64 ((12 * (10 * (d.toNat - 48) + (e.toNat - 48)) + m : Nat) : Int), .int .i64 0])
        rw [hx.out, ev]
        rfl
      · have hc2 : lb.toNat ≠ c.toNat := fun h => hc (UInt8.toNat_inj.1 h)
        have hj2 : Hid (∀ j, j < m + 1 → (letters.getD j 0).toNat ≠ c.toNat) := Lib.hid (fun j h => by
          by_cases e : j = m
          · subst e; rw [elb]; exact hc2
          · exact hj.out j (by omega))
        have i1 : ((lb.toNat : Int) == (c.toNat : Int)) = false := by simp; omega
        have i2 : (lb.toNat == c.toNat) = false := by simp; omega
        clear elb hc hc2
        go_wp2_with fail
        go_region
        go_wp2_with fail
        go_roundw
        case rel => exact ⟨m + 1, by omega, by go_num, hj2, Lib.hid hB.out.drew⟩
        case measure => simp [intOf]; omega
    · have hd : decide ((m : Int) < 12) = false := decide_eq_false (by omega)
      have hi := idx_all (a := c.toNat) (fun j h => hj.out j (by omega))
      rw [ho.out] at hi
      subst hi
      go_wp2_with fail
      go_ret3
      exact ⟨rfl, hB.out⟩
end Go.Proofs.Ytfhegnmfkmolbaa
