/-
  The walks of few, known and parsed, and of the law SymbolTells.
-/
import Derived.Test.YtfhegnmfkmolbaaSymRef2
import Derived.KernelRfl
namespace Go.Proofs.Ytfhegnmfkmolbaa
open Go.RowKit
set_option linter.unusedVariables false
set_option linter.unusedSimpArgs false

set_option maxRecDepth 100000 in
theorem SFew_any (l : List UInt8) (w : World) :
    Calls Try.prog 15 #[.string (str l)] w fun e w' => e = .returned (.string (str (l.take 60))) ∧ w' = w := by
  by_cases h : 60 < l.length
  · have hz : (60 : Int) < ((str l).size : Int) := by rw [str_size]; omega
    have hz2 : 60 ≤ (str l).size := by rw [str_size]; omega
    go_enter Try.func15, Try.ntmps15
    go_wp2
    go_ret
    exact ⟨by rw [ext_to]; rfl, rfl⟩
  · have hz : ¬ (60 : Int) < ((str l).size : Int) := by rw [str_size]; omega
    have ht := Lib.hid (show l.take 60 = l from List.take_of_length_le (by omega))
    go_enter Try.func15, Try.ntmps15
    go_wp2
    go_ret
    exact ⟨by rw [ht.out]; rfl, rfl⟩

theorem c1 : codeL [67, 76] 323 = [67, 76, 90, 50, 54] := by decide
theorem c2 : codeE [67, 76] 323 = 0 := by decide
theorem c3 : pq [206, 169, 70, 48, 48] = [206, 169] := by decide
theorem c4 : pm [206, 169, 70, 48, 48] = 0 := by decide
theorem c5 : pe [206, 169, 70, 48, 48] = 0 := by decide
theorem c6 : pe [67, 76, 65, 50, 54] = 12 := by decide
theorem s67 : str [67, 76, 90, 50, 54] = { data := #[67, 76, 90, 50, 54] } := rfl
theorem s206 : str [206, 169] = { data := #[206, 169] } := rfl

set_option maxRecDepth 100000 in
set_option maxHeartbeats 1000000 in
theorem SKnown_any (w : World) : Calls Try.prog 14 #[] w fun e w' => e = .returned (.bool true) ∧ Below w.heap.size w w' := by
  go_enter Try.func14, Try.ntmps14
  go_wp2_with fail
  refine (Code_any [67, 76] 323 _).mono ?_
  rintro e w1 ⟨rfl, b1⟩
  rw [c1, c2, s67]
  have B1 := Lib.hid b1
  clear b1
  go_wp2_with fail
  refine (Parse_any [206, 169, 70, 48, 48] _ (by decide)).mono ?_
  rintro e w2 ⟨rfl, b2⟩
  rw [c3, c4, c5, s206]
  have B2 := Lib.hid (B1.out.trans (b2.mono B1.out.size))
  clear b2
  go_wp2_with fail
  refine (Parse_any [67, 76, 65, 50, 54] _ (by decide)).mono ?_
  rintro e w3 ⟨rfl, b3⟩
  rw [c6]
  have B3 := Lib.hid (B2.out.trans (b3.mono B2.out.size))
  clear b3
  go_wp2_with fail
  go_ret
  exact ⟨rfl, B3.out⟩

set_option maxRecDepth 100000 in
set_option maxHeartbeats 2000000 in
theorem Parsed_go (l p q : List UInt8) (m e n f g : Nat) (w : World) (hs : l.length ≤ 140737488355328) (h1 : Hid (pq l = p)) (h2 : Hid (pm l = m)) (h3 : Hid (pe l = e)) (h4 : Hid (sq l = q)) (h5 : Hid (sn l = n)) (h6 : Hid (sf l = f)) (h7 : Hid (se l = g)) :
    Calls Try.prog 13 #[.string (str l)] w fun e w' => e = .returned (.bool true) ∧ Below w.heap.size w w' := by
  go_enter Try.func13, Try.ntmps13
  go_wp2_with fail
  refine (Parse_any l _ hs).mono ?_
  rintro x w1 ⟨rfl, b⟩
  rw [h1.out, h2.out, h3.out]
  have B1 := Lib.hid b
  clear b
  go_wp2_with fail
  refine (RefParse_any l _ hs).mono ?_
  rintro x w2 ⟨rfl, b⟩
  rw [h1.out, h2.out, h3.out]
  have B2 := Lib.hid (B1.out.trans (b.mono B1.out.size))
  clear b
  go_wp2_with fail
  refine (ParseSpread_any l _ hs).mono ?_
  rintro x w3 ⟨rfl, b⟩
  rw [h4.out, h5.out, h6.out, h7.out]
  have B3 := Lib.hid (B2.out.trans (b.mono B2.out.size))
  clear b
  go_wp2_with fail
  refine (RefParseSpread_any l _ hs).mono ?_
  rintro x w4 ⟨rfl, b⟩
  rw [h4.out, h5.out, h6.out, h7.out]
  have B4 := Lib.hid (B3.out.trans (b.mono B3.out.size))
  clear b
  go_wp2_with fail
  refine (Product_any l _).mono ?_
  rintro x w5 ⟨rfl, b⟩
  have B5 := Lib.hid (B4.out.trans (b.mono B4.out.size))
  clear b
  go_wp2_with fail
  refine (RefProduct_any l _ hs).mono ?_
  rintro x w6 ⟨rfl, b⟩
  have B6 := Lib.hid (B5.out.trans (b.mono B5.out.size))
  clear b
  go_wp2_with fail
  go_ret
  exact ⟨rfl, B6.out⟩
theorem Parsed_any (l : List UInt8) (w : World) (hs : l.length ≤ 140737488355328) :
    Calls Try.prog 13 #[.string (str l)] w fun e w' => e = .returned (.bool true) ∧ Below w.heap.size w w' :=
  Parsed_go l _ _ _ _ _ _ _ w hs (Lib.hid rfl) (Lib.hid rfl) (Lib.hid rfl) (Lib.hid rfl) (Lib.hid rfl) (Lib.hid rfl) (Lib.hid rfl)

set_option maxRecDepth 100000 in
set_option maxHeartbeats 4000000 in
theorem STells_go (P S p s a c : List UInt8) (near far : Int) (e g : Nat) (w : World) (hp : Hid (P.take 60 = p)) (hs : Hid (S.take 60 = s)) (pl : p.length ≤ 60) (sl : s.length ≤ 60) (al : a.length ≤ 11) (cl : c.length ≤ 23)
    (h1 : Hid (codeL p near = a)) (h2 : Hid (codeE p near = e)) (h3 : Hid (spreadL p near far = c)) (h4 : Hid (spreadE p near far = g)) :
    Calls Try.prog 4 #[.string (str P), .string (str S), .int .i64 near, .int .i64 far] w fun e w' => e = .returned (.bool true) ∧ Below w.heap.size w w' := by
  have Hj := Lib.hid (show str s ++ str [45] ++ str p = str (s ++ [45] ++ p) by rw [str_append, str_append])
  have jl : (s ++ [45] ++ p).length ≤ 121 := by rw [List.length_append, List.length_append]; simp; omega
  have e45 : (⟨#[45]⟩ : ByteArray) = str [45] := rfl
  have z3 : (str [45]).size = 1 := rfl
  have z1 : (str s).size ≤ 60 := by rw [str_size]; exact sl
  have z2 : (str p).size ≤ 60 := by rw [str_size]; exact pl
  go_enter Try.func4, Try.ntmps4
  go_wp2_with fail
  refine (SFew_any P _).mono ?_
  rintro x w0 ⟨rfl, rfl⟩
  rw [hp.out]
  go_wp2_with fail
  refine (SFew_any S _).mono ?_
  rintro x w0 ⟨rfl, rfl⟩
  rw [hs.out]
  go_wp2_with fail
  refine (Code_any p near _).mono ?_
  rintro x w1 ⟨rfl, b⟩
  rw [h1.out, h2.out]
  have B1 := Lib.hid b
  clear b
  go_wp2_with fail
  refine (RefCode_any p near _ (by omega)).mono ?_
  rintro x w2 ⟨rfl, b⟩
  rw [h1.out, h2.out]
  have B2 := Lib.hid (B1.out.trans (b.mono B1.out.size))
  clear b
  go_wp2_with fail
  refine (Spread_any p near far _).mono ?_
  rintro x w3 ⟨rfl, b⟩
  rw [h3.out, h4.out]
  have B3 := Lib.hid (B2.out.trans (b.mono B2.out.size))
  clear b
  go_wp2_with fail
  refine (RefSpread_any p near far _ (by omega)).mono ?_
  rintro x w4 ⟨rfl, b⟩
  rw [h3.out, h4.out]
  have B4 := Lib.hid (B3.out.trans (b.mono B3.out.size))
  clear b
  go_wp2_with fail
  refine (Parsed_any s _ (by omega)).mono ?_
  rintro x w5 ⟨rfl, b⟩
  have B5 := Lib.hid (B4.out.trans (b.mono B4.out.size))
  clear b
  go_wp2_with fail
  refine (Parsed_any p _ (by omega)).mono ?_
  rintro x w6 ⟨rfl, b⟩
  have B6 := Lib.hid (B5.out.trans (b.mono B5.out.size))
  clear b
  go_wp2_with fail
  refine (Parsed_any a _ (by omega)).mono ?_
  rintro x w7 ⟨rfl, b⟩
  have B7 := Lib.hid (B6.out.trans (b.mono B6.out.size))
  clear b
  go_wp2_with fail
  refine (Parsed_any c _ (by omega)).mono ?_
  rintro x w8 ⟨rfl, b⟩
  have B8 := Lib.hid (B7.out.trans (b.mono B7.out.size))
  clear b
  go_wp2_with fail
  rw [Hj.out]
  refine (Parsed_any _ _ (by omega)).mono ?_
  rintro x w9 ⟨rfl, b⟩
  have B9 := Lib.hid (B8.out.trans (b.mono B8.out.size))
  clear b
  go_wp2_with fail
  refine (SKnown_any _).mono ?_
  rintro x w10 ⟨rfl, b⟩
  have B10 := Lib.hid (B9.out.trans (b.mono B9.out.size))
  clear b
  go_wp2_with fail
  go_ret
  exact ⟨rfl, B10.out⟩
theorem STells_walk (P S : List UInt8) (near far : Int) (w : World) :
    Calls Try.prog 4 #[.string (str P), .string (str S), .int .i64 near, .int .i64 far] w fun e w' => e = .returned (.bool true) ∧ Below w.heap.size w w' :=
  STells_go P S _ _ _ _ near far _ _ w (Lib.hid rfl) (Lib.hid rfl) (take_len _ _) (take_len _ _) (codeL_len _ _) (spreadL_len _ _ _) (Lib.hid rfl) (Lib.hid rfl) (Lib.hid rfl) (Lib.hid rfl)
end Go.Proofs.Ytfhegnmfkmolbaa
