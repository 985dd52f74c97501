/-
  The walk of the law SymbolMonths.
-/
import Derived.Test.YtfhegnmfkmolbaaSymFacts
import Derived.Deep.Cut
namespace Go.Proofs.Ytfhegnmfkmolbaa
open Go.RowKit
set_option linter.unusedVariables false
set_option linter.unusedSimpArgs false

/-- The letter of the round before. -/
def lastN (i : Nat) : Nat := if i = 0 then 0 else (letters.getD (i - 1) 0).toNat
theorem last_next (i : Nat) : lastN (i + 1) = (letters.getD i 0).toNat := rfl
theorem last_rise : ∀ i, i < 12 → lastN i < (letters.getD i 0).toNat := by decide
theorem last_byte : ∀ i, i ≤ 12 → lastN i ≤ 255 := by decide
/-- The codes of a month and of that month a year later: sizes, the letter, what stands behind it. -/
structure Pair (p s t : List UInt8) (z : Nat) (b : UInt8) (x y : List UInt8) : Prop where
  sp : (str p).size = z
  ss : (str s).size = z + 3
  st : (str t).size = z + 3
  bs : ∀ h : z < (str s).size, (str s)[z] = b
  bt : ∀ h : z < (str t).size, (str t)[z] = b
  es : (str s).extract (z + 1) (z + 3) = str x
  et : (str t).extract (z + 1) (z + 3) = str y
  ne : x ≠ y
theorem code_at (p : List UInt8) (m : Nat) : (∀ h : p.length < (str (p ++ tail m)).size, (str (p ++ tail m))[p.length] = letters.getD (m % 12) 0) ∧
    (str (p ++ tail m)).extract (p.length + 1) (p.length + 3) = str [UInt8.ofNat (48 + m / 12 / 10), UInt8.ofNat (48 + m / 12 % 10)] := by
  constructor
  · intro h
    show (p ++ tail m)[p.length]'(by rw [str_size] at h; exact h) = _
    rw [List.getElem_append_right (Nat.le_refl _)]
    simp [tail]
  · rw [ext_str, show p.length + 1 = (p ++ [letters.getD (m % 12) 0]).length by simp]
    rw [show p ++ tail m = (p ++ [letters.getD (m % 12) 0]) ++ [UInt8.ofNat (48 + m / 12 / 10), UInt8.ofNat (48 + m / 12 % 10)] by simp [tail]]
    rw [List.drop_left', List.take_of_length_le]
    · simp
    · rfl
theorem pair_of {p : List UInt8} {q i : Nat} (hi : i < 12) (hq : q ≤ 97) : ∃ x y, Pair p (p ++ tail (12 * q + i)) (p ++ tail (12 * q + i + 12)) p.length (letters.getD i 0) x y := by
  obtain ⟨a1, a2⟩ := code_at p (12 * q + i)
  obtain ⟨b1, b2⟩ := code_at p (12 * q + i + 12)
  rw [show (12 * q + i) % 12 = i by omega] at a1
  rw [show (12 * q + i + 12) % 12 = i by omega] at b1
  refine ⟨_, _, str_size p, by rw [str_size, code_len], by rw [str_size, code_len], a1, b1, a2, b2, fun e => ?_⟩
  rw [show (12 * q + i) / 12 = q by omega, show (12 * q + i + 12) / 12 = q + 1 by omega] at e
  injection e with e1 e2
  injection e2 with e2 _
  have h1 := congrArg UInt8.toNat e1
  have h2 := congrArg UInt8.toNat e2
  rw [digit_nat (by omega), digit_nat (by omega)] at h1 h2
  omega

set_option maxRecDepth 100000 in
set_option maxHeartbeats 8000000 in
theorem SMonths_n (P p : List UInt8) (month : Int) (m q : Nat) (w : World) (n1 : -9223372036854775808 ≤ month) (n2 : month ≤ 9223372036854775807) (hn : month < 0) (em : Hid (-(month + 1).tmod 1176 = (m : Int))) (m3 : m < 1176)
    (eq : m / 12 = q) (ep : Hid (P.take 60 = p)) (hp : Hid (prodB p = true)) :
    Calls Try.prog 6 #[.string (str P), .int .i64 month] w fun e w' => e = .returned (.bool true) ∧ Below w.heap.size w w' := by
  have hq : q ≤ 97 := by omega
  obtain ⟨F, eF⟩ : ∃ F, 12 * q = F := ⟨_, rfl⟩
  have em2 := Lib.hid (show (m : Int) - (m : Int) % 12 = (F : Int) by omega)
  have hF : F ≤ 1164 := by omega
  have eF := Lib.hid eF
  have pl := prodB_len hp.out
  clear eq
  go_enter Try.func6, Try.ntmps6
  go_wp2_with fail
  refine (SFew_any P _).mono ?_
  rintro z0 w0 ⟨rfl, rfl⟩
  rw [ep.out]
  go_wp2_with fail
  refine (Product_any p _).mono ?_
  rintro z0 w1 ⟨rfl, bz⟩
  rw [hp.out]
  have B1 := Lib.hid bz
  clear bz
  go_upto_region 7 with (fail)
  rw [em.out]
  go_wp2_with fail
  rw [em2.out]
  go_loopw [6, 7] (fun c s wr => ∃ i : Nat, i ≤ 12 ∧ c = .int .u8 (lastN i) ∧ s = .int .i64 i ∧ Hid (Below w0.heap.size w0 wr)) (fun _ s _ => (12 - intOf s).toNat)
  case atStart => exact ⟨0, by omega, rfl, rfl, B1⟩
  case round =>
    obtain ⟨i, hi, rfl, rfl, hB⟩ := hrel
    by_cases hlt : i < 12
    · obtain ⟨x, y, R⟩ := pair_of (p := p) hlt hq
      rw [eF.out] at R
      have c1 := Lib.hid (codeE_ok (m := F + i) hp.out (by omega))
      have c2 := Lib.hid (codeL_ok (m := F + i) hp.out (by omega))
      have c3 := Lib.hid (codeE_ok (m := F + i + 12) hp.out (by omega))
      have c4 := Lib.hid (codeL_ok (m := F + i + 12) hp.out (by omega))
      have lr := last_rise i hlt
      have ln := Lib.hid (last_next i)
      obtain ⟨la, ela⟩ : ∃ la, lastN i = la := ⟨_, rfl⟩
      obtain ⟨lb, elb⟩ : ∃ lb, letters.getD i 0 = lb := ⟨_, rfl⟩
      rw [ela, elb] at lr
      rw [elb] at ln R
      rw [ela]
      clear ela elb
      obtain ⟨s, es⟩ : ∃ s, p ++ tail (F + i) = s := ⟨_, rfl⟩
      obtain ⟨t, et⟩ : ∃ t, p ++ tail (F + i + 12) = t := ⟨_, rfl⟩
      rw [es, et] at R
      rw [es] at c2
      rw [et] at c4
      clear es et
      obtain ⟨z, ez⟩ : ∃ z, p.length = z := ⟨_, rfl⟩
      rw [ez] at R pl
      clear ez
      have sp := R.sp
      have ss := R.ss
      have st := R.st
      have bs := R.bs
      have bt := R.bt
      have es := R.es
      have et := R.et
      have ne := str_neq R.ne
      have d0 : decide ((i : Int) < 12) = true := decide_eq_true (by omega)
      have d1 : decide ((lb.toNat : Int) ≤ (la : Int)) = false := decide_eq_false (by omega)
      have d2 : decide (lb.toNat ≤ la) = false := decide_eq_false (by omega)
      have f1 := Lib.hid (show (F : Int) + (i : Int) = ((F + i : Nat) : Int) by omega)
      have f2 := Lib.hid (show (F : Int) + (i : Int) + 12 = ((F + i + 12 : Nat) : Int) by omega)
      go_wp2_with fail
      rw [f1.out]
      refine (Code_any p ((F + i : Nat) : Int) _).mono ?_
      rintro z0 w2 ⟨rfl, bz⟩
      rw [c1.out, c2.out]
      have B2 := Lib.hid (hB.out.trans (bz.mono hB.out.size))
      clear bz
      go_wp2_with fail
      rw [f2.out]
      refine (Code_any p ((F + i + 12 : Nat) : Int) _).mono ?_
      rintro z0 w3 ⟨rfl, bz⟩
      rw [c3.out, c4.out]
      have B3 := Lib.hid (B2.out.trans (bz.mono B2.out.size))
      clear bz
      go_wp2_with fail
      go_region
      go_wp2_with fail
      go_roundw
      case rel => exact ⟨i + 1, by omega, by rw [ln.out], by go_num, Lib.hid B3.out.drew⟩
      case measure => simp [intOf]; omega
    · have d0 : decide ((i : Int) < 12) = false := decide_eq_false (by omega)
      go_wp2_with fail
      refine (SKnown_any _).mono ?_
      rintro z0 w4 ⟨rfl, bz⟩
      have B4 := Lib.hid (hB.out.trans (bz.mono hB.out.size))
      clear bz
      go_wp2_with fail
      go_ret
      exact ⟨rfl, B4.out⟩

set_option maxRecDepth 100000 in
set_option maxHeartbeats 8000000 in
theorem SMonths_p (P p : List UInt8) (month : Int) (m q : Nat) (w : World) (n1 : -9223372036854775808 ≤ month) (n2 : month ≤ 9223372036854775807) (hn : 0 ≤ month) (em : Hid (month % 1176 = (m : Int))) (m3 : m < 1176)
    (eq : m / 12 = q) (ep : Hid (P.take 60 = p)) (hp : Hid (prodB p = true)) :
    Calls Try.prog 6 #[.string (str P), .int .i64 month] w fun e w' => e = .returned (.bool true) ∧ Below w.heap.size w w' := by
  have hq : q ≤ 97 := by omega
  obtain ⟨F, eF⟩ : ∃ F, 12 * q = F := ⟨_, rfl⟩
  have em2 := Lib.hid (show (m : Int) - (m : Int) % 12 = (F : Int) by omega)
  have hF : F ≤ 1164 := by omega
  have eF := Lib.hid eF
  have pl := prodB_len hp.out
  clear eq
  go_enter Try.func6, Try.ntmps6
  go_wp2_with fail
  refine (SFew_any P _).mono ?_
  rintro z0 w0 ⟨rfl, rfl⟩
  rw [ep.out]
  go_wp2_with fail
  refine (Product_any p _).mono ?_
  rintro z0 w1 ⟨rfl, bz⟩
  rw [hp.out]
  have B1 := Lib.hid bz
  clear bz
  go_upto_region 7 with (fail)
  rw [em.out]
  go_wp2_with fail
  rw [em2.out]
  go_loopw [6, 7] (fun c s wr => ∃ i : Nat, i ≤ 12 ∧ c = .int .u8 (lastN i) ∧ s = .int .i64 i ∧ Hid (Below w0.heap.size w0 wr)) (fun _ s _ => (12 - intOf s).toNat)
  case atStart => exact ⟨0, by omega, rfl, rfl, B1⟩
  case round =>
    obtain ⟨i, hi, rfl, rfl, hB⟩ := hrel
    by_cases hlt : i < 12
    · obtain ⟨x, y, R⟩ := pair_of (p := p) hlt hq
      rw [eF.out] at R
      have c1 := Lib.hid (codeE_ok (m := F + i) hp.out (by omega))
      have c2 := Lib.hid (codeL_ok (m := F + i) hp.out (by omega))
      have c3 := Lib.hid (codeE_ok (m := F + i + 12) hp.out (by omega))
      have c4 := Lib.hid (codeL_ok (m := F + i + 12) hp.out (by omega))
      have lr := last_rise i hlt
      have ln := Lib.hid (last_next i)
      obtain ⟨la, ela⟩ : ∃ la, lastN i = la := ⟨_, rfl⟩
      obtain ⟨lb, elb⟩ : ∃ lb, letters.getD i 0 = lb := ⟨_, rfl⟩
      rw [ela, elb] at lr
      rw [elb] at ln R
      rw [ela]
      clear ela elb
      obtain ⟨s, es⟩ : ∃ s, p ++ tail (F + i) = s := ⟨_, rfl⟩
      obtain ⟨t, et⟩ : ∃ t, p ++ tail (F + i + 12) = t := ⟨_, rfl⟩
      rw [es, et] at R
      rw [es] at c2
      rw [et] at c4
      clear es et
      obtain ⟨z, ez⟩ : ∃ z, p.length = z := ⟨_, rfl⟩
      rw [ez] at R pl
      clear ez
      have sp := R.sp
      have ss := R.ss
      have st := R.st
      have bs := R.bs
      have bt := R.bt
      have es := R.es
      have et := R.et
      have ne := str_neq R.ne
      have d0 : decide ((i : Int) < 12) = true := decide_eq_true (by omega)
      have d1 : decide ((lb.toNat : Int) ≤ (la : Int)) = false := decide_eq_false (by omega)
      have d2 : decide (lb.toNat ≤ la) = false := decide_eq_false (by omega)
      have f1 := Lib.hid (show (F : Int) + (i : Int) = ((F + i : Nat) : Int) by omega)
      have f2 := Lib.hid (show (F : Int) + (i : Int) + 12 = ((F + i + 12 : Nat) : Int) by omega)
      go_wp2_with fail
      rw [f1.out]
      refine (Code_any p ((F + i : Nat) : Int) _).mono ?_
      rintro z0 w2 ⟨rfl, bz⟩
      rw [c1.out, c2.out]
      have B2 := Lib.hid (hB.out.trans (bz.mono hB.out.size))
      clear bz
      go_wp2_with fail
      rw [f2.out]
      refine (Code_any p ((F + i + 12 : Nat) : Int) _).mono ?_
      rintro z0 w3 ⟨rfl, bz⟩
      rw [c3.out, c4.out]
      have B3 := Lib.hid (B2.out.trans (bz.mono B2.out.size))
      clear bz
      go_wp2_with fail
      go_region
      go_wp2_with fail
      go_roundw
      case rel => exact ⟨i + 1, by omega, by rw [ln.out], by go_num, Lib.hid B3.out.drew⟩
      case measure => simp [intOf]; omega
    · have d0 : decide ((i : Int) < 12) = false := decide_eq_false (by omega)
      go_wp2_with fail
      refine (SKnown_any _).mono ?_
      rintro z0 w4 ⟨rfl, bz⟩
      have B4 := Lib.hid (hB.out.trans (bz.mono hB.out.size))
      clear bz
      go_wp2_with fail
      go_ret
      exact ⟨rfl, B4.out⟩

set_option maxRecDepth 100000 in
theorem SMonths_no (P p : List UInt8) (month : Int) (w : World) (ep : Hid (P.take 60 = p)) (hp : Hid (prodB p = false)) :
    Calls Try.prog 6 #[.string (str P), .int .i64 month] w fun e w' => e = .returned (.bool true) ∧ Below w.heap.size w w' := by
  go_enter Try.func6, Try.ntmps6
  go_wp2_with fail
  refine (SFew_any P _).mono ?_
  rintro z0 w0 ⟨rfl, rfl⟩
  rw [ep.out]
  go_wp2_with fail
  refine (Product_any p _).mono ?_
  rintro z0 w1 ⟨rfl, bz⟩
  rw [hp.out]
  have B1 := Lib.hid bz
  clear bz
  go_wp2_with fail
  refine (SKnown_any _).mono ?_
  rintro z0 w4 ⟨rfl, bz⟩
  have B4 := Lib.hid (B1.out.trans (bz.mono B1.out.size))
  clear bz
  go_wp2_with fail
  go_ret
  exact ⟨rfl, B4.out⟩
theorem SMonths_walk (P : List UInt8) (month : Int) (w : World) (n1 : -9223372036854775808 ≤ month) (n2 : month ≤ 9223372036854775807) :
    Calls Try.prog 6 #[.string (str P), .int .i64 month] w fun e w' => e = .returned (.bool true) ∧ Below w.heap.size w w' := by
  cases hp : prodB (P.take 60)
  · exact SMonths_no P _ month w (Lib.hid rfl) (Lib.hid hp)
  · by_cases hn : month < 0
    · obtain ⟨m, m3, em⟩ := mod_neg 1176 hn (by omega)
      exact SMonths_n P _ month m _ w n1 n2 hn (Lib.hid em) m3 rfl (Lib.hid rfl) (Lib.hid hp)
    · obtain ⟨m, m3, em⟩ := mod_pos 1176 (Int.not_lt.1 hn) (by omega)
      exact SMonths_p P _ month m _ w n1 n2 (Int.not_lt.1 hn) (Lib.hid em) m3 rfl (Lib.hid rfl) (Lib.hid hp)
end Go.Proofs.Ytfhegnmfkmolbaa
