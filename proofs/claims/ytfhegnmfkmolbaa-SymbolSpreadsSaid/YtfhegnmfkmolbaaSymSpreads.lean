/-
  The walk of the law SymbolSpreads.
-/
import Derived.Test.YtfhegnmfkmolbaaSymFacts
namespace Go.Proofs.Ytfhegnmfkmolbaa
open Go.RowKit
set_option linter.unusedVariables false
set_option linter.unusedSimpArgs false

set_option maxRecDepth 100000 in
set_option maxHeartbeats 4000000 in
theorem SSpreads_nn_no (P p : List UInt8) (near far : Int) (n f : Nat) (w : World) (n1 : -9223372036854775808 ≤ near) (n2 : near ≤ 9223372036854775807) (f1 : -9223372036854775808 ≤ far) (f2 : far ≤ 9223372036854775807)
    (hn : near < 0) (hf : far < 0) (en : Hid (-(near + 1).tmod 1200 = (n : Int))) (ef : Hid (-(far + 1).tmod 1200 = (f : Int))) (n3 : n < 1200) (f3 : f < 1200) (ep : Hid (P.take 60 = p)) (hp : Hid (prodB p = false)) :
    Calls Try.prog 7 #[.string (str P), .int .i64 near, .int .i64 far] w fun e w' => e = .returned (.bool true) ∧ Below w.heap.size w w' := by
  have c1 := Lib.hid (codeE_bad (m := (n : Int)) hp.out)
  have c2 := Lib.hid (codeL_no (p := p) (m := (n : Int)) (by rw [c1.out]; decide))
  have c3 := Lib.hid (codeE_bad (m := (f : Int)) hp.out)
  have c4 := Lib.hid (codeL_no (p := p) (m := (f : Int)) (by rw [c3.out]; decide))
  have c5 := Lib.hid (spread_near (p := p) (n := (n : Int)) (f := (f : Int)) (by rw [c1.out]; decide))
  have nil0 : (str []).toList = [] := by rw [ByteArray.toList_eq]; rfl
  go_enter Try.func7, Try.ntmps7
  go_wp2_with fail
  refine (SFew_any P _).mono ?_
  rintro z w0 ⟨rfl, rfl⟩
  rw [ep.out]
  go_wp2_with fail
  rw [en.out]
  refine (Code_any p n _).mono ?_
  rintro z w1 ⟨rfl, bz⟩
  rw [c1.out, c2.out]
  have B1 := Lib.hid bz
  clear bz
  go_wp2_with fail
  rw [ef.out]
  refine (Code_any p f _).mono ?_
  rintro z w2 ⟨rfl, bz⟩
  rw [c3.out, c4.out]
  have B2 := Lib.hid (B1.out.trans (bz.mono B1.out.size))
  clear bz
  go_wp2_with fail
  refine (Spread_any p n f _).mono ?_
  rintro z w3 ⟨rfl, bz⟩
  rw [c5.out.1, c5.out.2, c1.out]
  have B3 := Lib.hid (B2.out.trans (bz.mono B2.out.size))
  clear bz
  go_wp2_with fail
  refine (SKnown_any _).mono ?_
  rintro z w4 ⟨rfl, bz⟩
  have B4 := Lib.hid (B3.out.trans (bz.mono B3.out.size))
  clear bz
  go_wp2_with fail
  go_ret
  exact ⟨rfl, B4.out⟩

set_option maxRecDepth 100000 in
set_option maxHeartbeats 4000000 in
theorem SSpreads_nn_turned (P p : List UInt8) (near far : Int) (n f : Nat) (w : World) (n1 : -9223372036854775808 ≤ near) (n2 : near ≤ 9223372036854775807) (f1 : -9223372036854775808 ≤ far) (f2 : far ≤ 9223372036854775807)
    (hn : near < 0) (hf : far < 0) (en : Hid (-(near + 1).tmod 1200 = (n : Int))) (ef : Hid (-(far + 1).tmod 1200 = (f : Int))) (n3 : n < 1200) (f3 : f < 1200) (ep : Hid (P.take 60 = p)) (hp : Hid (prodB p = true)) (hle : f ≤ n) :
    Calls Try.prog 7 #[.string (str P), .int .i64 near, .int .i64 far] w fun e w' => e = .returned (.bool true) ∧ Below w.heap.size w w' := by
  have c1 := Lib.hid (codeE_ok (m := n) hp.out (by omega))
  have c2 := Lib.hid (codeL_ok (m := n) hp.out (by omega))
  have c3 := Lib.hid (codeE_ok (m := f) hp.out (by omega))
  have c4 := Lib.hid (codeL_ok (m := f) hp.out (by omega))
  have c5 := Lib.hid (spread_turned (p := p) (n := (n : Int)) (f := (f : Int)) c1.out c3.out (by omega))
  have d1 : decide ((f : Int) ≤ n) = true := decide_eq_true (by omega)
  have d2 : decide (f ≤ n) = true := decide_eq_true (by omega)
  have nil0 : (str []).toList = [] := by rw [ByteArray.toList_eq]; rfl
  go_enter Try.func7, Try.ntmps7
  go_wp2_with fail
  refine (SFew_any P _).mono ?_
  rintro z w0 ⟨rfl, rfl⟩
  rw [ep.out]
  go_wp2_with fail
  rw [en.out]
  refine (Code_any p n _).mono ?_
  rintro z w1 ⟨rfl, bz⟩
  rw [c1.out, c2.out]
  have B1 := Lib.hid bz
  clear bz
  go_wp2_with fail
  rw [ef.out]
  refine (Code_any p f _).mono ?_
  rintro z w2 ⟨rfl, bz⟩
  rw [c3.out, c4.out]
  have B2 := Lib.hid (B1.out.trans (bz.mono B1.out.size))
  clear bz
  go_wp2_with fail
  refine (Spread_any p n f _).mono ?_
  rintro z w3 ⟨rfl, bz⟩
  rw [c5.out.1, c5.out.2]
  have B3 := Lib.hid (B2.out.trans (bz.mono B2.out.size))
  clear bz
  go_wp2_with fail
  refine (SKnown_any _).mono ?_
  rintro z w4 ⟨rfl, bz⟩
  have B4 := Lib.hid (B3.out.trans (bz.mono B3.out.size))
  clear bz
  go_wp2_with fail
  go_ret
  exact ⟨rfl, B4.out⟩

set_option maxRecDepth 100000 in
set_option maxHeartbeats 4000000 in
theorem SSpreads_nn_yes (P p : List UInt8) (near far : Int) (n f : Nat) (w : World) (n1 : -9223372036854775808 ≤ near) (n2 : near ≤ 9223372036854775807) (f1 : -9223372036854775808 ≤ far) (f2 : far ≤ 9223372036854775807)
    (hn : near < 0) (hf : far < 0) (en : Hid (-(near + 1).tmod 1200 = (n : Int))) (ef : Hid (-(far + 1).tmod 1200 = (f : Int))) (n3 : n < 1200) (f3 : f < 1200) (ep : Hid (P.take 60 = p)) (hp : Hid (prodB p = true)) (hlt : n < f) :
    Calls Try.prog 7 #[.string (str P), .int .i64 near, .int .i64 far] w fun e w' => e = .returned (.bool true) ∧ Below w.heap.size w w' := by
  have c1 := Lib.hid (codeE_ok (m := n) hp.out (by omega))
  have c2 := Lib.hid (codeL_ok (m := n) hp.out (by omega))
  have c3 := Lib.hid (codeE_ok (m := f) hp.out (by omega))
  have c4 := Lib.hid (codeL_ok (m := f) hp.out (by omega))
  have c5 := Lib.hid (spread_ok (p := p) (n := (n : Int)) (f := (f : Int)) c1.out c3.out (by omega))
  have d1 : decide ((f : Int) ≤ n) = false := decide_eq_false (by omega)
  have d2 : decide (f ≤ n) = false := decide_eq_false (by omega)
  have pl := prodB_len hp.out
  obtain ⟨a, ea⟩ : ∃ a, p ++ tail n = a := ⟨_, rfl⟩
  obtain ⟨b, eb⟩ : ∃ b, p ++ tail f = b := ⟨_, rfl⟩
  have k1 := Lib.hid (parse_none (parse_spread (a := p ++ tail n) (p := p) (f := f)))
  have k2 := Lib.hid (spread_none (spread_code hp.out n3))
  have k3 := Lib.hid (spread_none (spread_back hp.out n3 f3 hlt))
  have k4 := Lib.hid (spread_some (spread_name hp.out n3 f3 hlt))
  have al : a.length ≤ 11 := by rw [← ea, code_len]; omega
  have bl : b.length ≤ 11 := by rw [← eb, code_len]; omega
  rw [ea, eb] at k1 k3 k4
  rw [ea] at k2 c2
  rw [eb] at c4
  rw [c2.out, c4.out] at c5
  clear ea eb
  have e45 : (⟨#[45]⟩ : ByteArray) = str [45] := rfl
  have z0 : (str [45]).size = 1 := rfl
  have z1 : (str a).size ≤ 11 := by rw [str_size]; exact al
  have z2 : (str b).size ≤ 11 := by rw [str_size]; exact bl
  have l1 : (a ++ 45 :: b).length ≤ 23 := by rw [List.length_append, List.length_cons]; omega
  have l2 : (b ++ 45 :: a).length ≤ 23 := by rw [List.length_append, List.length_cons]; omega
  have j1 : str a ++ str [45] ++ str b = str (a ++ 45 :: b) := by rw [str_append, str_append]; simp
  have j2 : str b ++ str [45] ++ str a = str (b ++ 45 :: a) := by rw [str_append, str_append]; simp
  go_enter Try.func7, Try.ntmps7
  go_wp2_with fail
  refine (SFew_any P _).mono ?_
  rintro z w0 ⟨rfl, rfl⟩
  rw [ep.out]
  go_wp2_with fail
  rw [en.out]
  refine (Code_any p n _).mono ?_
  rintro z w1 ⟨rfl, bz⟩
  rw [c1.out, c2.out]
  have B1 := Lib.hid bz
  clear bz
  go_wp2_with fail
  rw [ef.out]
  refine (Code_any p f _).mono ?_
  rintro z w2 ⟨rfl, bz⟩
  rw [c3.out, c4.out]
  have B2 := Lib.hid (B1.out.trans (bz.mono B1.out.size))
  clear bz
  go_wp2_with fail
  refine (Spread_any p n f _).mono ?_
  rintro z w3 ⟨rfl, bz⟩
  rw [c5.out.1, c5.out.2]
  have B3 := Lib.hid (B2.out.trans (bz.mono B2.out.size))
  clear bz
  go_wp2_with fail
  refine (Parse_any _ _ (by omega)).mono ?_
  rintro z w4 ⟨rfl, bz⟩
  rw [k1.out.2.2]
  have B4 := Lib.hid (B3.out.trans (bz.mono B3.out.size))
  clear bz
  go_wp2_with fail
  refine (ParseSpread_any a _ (by omega)).mono ?_
  rintro z w5 ⟨rfl, bz⟩
  rw [k2.out.2.2.2]
  have B5 := Lib.hid (B4.out.trans (bz.mono B4.out.size))
  clear bz
  go_wp2_with fail
  refine (ParseSpread_any _ _ (by omega)).mono ?_
  rintro z w6 ⟨rfl, bz⟩
  rw [k3.out.2.2.2]
  have B6 := Lib.hid (B5.out.trans (bz.mono B5.out.size))
  clear bz
  go_wp2_with fail
  refine (ParseSpread_any _ _ (by omega)).mono ?_
  rintro z w7 ⟨rfl, bz⟩
  rw [k4.out.2.1, k4.out.2.2.1, k4.out.2.2.2]
  have B7 := Lib.hid (B6.out.trans (bz.mono B6.out.size))
  clear bz
  go_wp2_with fail
  refine (SKnown_any _).mono ?_
  rintro z w8 ⟨rfl, bz⟩
  have B8 := Lib.hid (B7.out.trans (bz.mono B7.out.size))
  clear bz
  go_wp2_with fail
  go_ret
  exact ⟨rfl, B8.out⟩

set_option maxRecDepth 100000 in
set_option maxHeartbeats 4000000 in
theorem SSpreads_nn (P p : List UInt8) (near far : Int) (n f : Nat) (w : World) (n1 : -9223372036854775808 ≤ near) (n2 : near ≤ 9223372036854775807) (f1 : -9223372036854775808 ≤ far) (f2 : far ≤ 9223372036854775807)
    (hn : near < 0) (hf : far < 0) (en : Hid (-(near + 1).tmod 1200 = (n : Int))) (ef : Hid (-(far + 1).tmod 1200 = (f : Int))) (n3 : n < 1200) (f3 : f < 1200) (ep : Hid (P.take 60 = p)) :
    Calls Try.prog 7 #[.string (str P), .int .i64 near, .int .i64 far] w fun e w' => e = .returned (.bool true) ∧ Below w.heap.size w w' := by
  cases hp : prodB p
  · exact SSpreads_nn_no P p near far n f w n1 n2 f1 f2 hn hf en ef n3 f3 ep (Lib.hid hp)
  · by_cases h : n < f
    · exact SSpreads_nn_yes P p near far n f w n1 n2 f1 f2 hn hf en ef n3 f3 ep (Lib.hid hp) h
    · exact SSpreads_nn_turned P p near far n f w n1 n2 f1 f2 hn hf en ef n3 f3 ep (Lib.hid hp) (by omega)

set_option maxRecDepth 100000 in
set_option maxHeartbeats 4000000 in
theorem SSpreads_np_no (P p : List UInt8) (near far : Int) (n f : Nat) (w : World) (n1 : -9223372036854775808 ≤ near) (n2 : near ≤ 9223372036854775807) (f1 : -9223372036854775808 ≤ far) (f2 : far ≤ 9223372036854775807)
    (hn : near < 0) (hf : 0 ≤ far) (en : Hid (-(near + 1).tmod 1200 = (n : Int))) (ef : Hid (far % 1200 = (f : Int))) (n3 : n < 1200) (f3 : f < 1200) (ep : Hid (P.take 60 = p)) (hp : Hid (prodB p = false)) :
    Calls Try.prog 7 #[.string (str P), .int .i64 near, .int .i64 far] w fun e w' => e = .returned (.bool true) ∧ Below w.heap.size w w' := by
  have c1 := Lib.hid (codeE_bad (m := (n : Int)) hp.out)
  have c2 := Lib.hid (codeL_no (p := p) (m := (n : Int)) (by rw [c1.out]; decide))
  have c3 := Lib.hid (codeE_bad (m := (f : Int)) hp.out)
  have c4 := Lib.hid (codeL_no (p := p) (m := (f : Int)) (by rw [c3.out]; decide))
  have c5 := Lib.hid (spread_near (p := p) (n := (n : Int)) (f := (f : Int)) (by rw [c1.out]; decide))
  have nil0 : (str []).toList = [] := by rw [ByteArray.toList_eq]; rfl
  go_enter Try.func7, Try.ntmps7
  go_wp2_with fail
  refine (SFew_any P _).mono ?_
  rintro z w0 ⟨rfl, rfl⟩
  rw [ep.out]
  go_wp2_with fail
  rw [en.out]
  refine (Code_any p n _).mono ?_
  rintro z w1 ⟨rfl, bz⟩
  rw [c1.out, c2.out]
  have B1 := Lib.hid bz
  clear bz
  go_wp2_with fail
  rw [ef.out]
  refine (Code_any p f _).mono ?_
  rintro z w2 ⟨rfl, bz⟩
  rw [c3.out, c4.out]
  have B2 := Lib.hid (B1.out.trans (bz.mono B1.out.size))
  clear bz
  go_wp2_with fail
  refine (Spread_any p n f _).mono ?_
  rintro z w3 ⟨rfl, bz⟩
  rw [c5.out.1, c5.out.2, c1.out]
  have B3 := Lib.hid (B2.out.trans (bz.mono B2.out.size))
  clear bz
  go_wp2_with fail
  refine (SKnown_any _).mono ?_
  rintro z w4 ⟨rfl, bz⟩
  have B4 := Lib.hid (B3.out.trans (bz.mono B3.out.size))
  clear bz
  go_wp2_with fail
  go_ret
  exact ⟨rfl, B4.out⟩

set_option maxRecDepth 100000 in
set_option maxHeartbeats 4000000 in
theorem SSpreads_np_turned (P p : List UInt8) (near far : Int) (n f : Nat) (w : World) (n1 : -9223372036854775808 ≤ near) (n2 : near ≤ 9223372036854775807) (f1 : -9223372036854775808 ≤ far) (f2 : far ≤ 9223372036854775807)
    (hn : near < 0) (hf : 0 ≤ far) (en : Hid (-(near + 1).tmod 1200 = (n : Int))) (ef : Hid (far % 1200 = (f : Int))) (n3 : n < 1200) (f3 : f < 1200) (ep : Hid (P.take 60 = p)) (hp : Hid (prodB p = true)) (hle : f ≤ n) :
    Calls Try.prog 7 #[.string (str P), .int .i64 near, .int .i64 far] w fun e w' => e = .returned (.bool true) ∧ Below w.heap.size w w' := by
  have c1 := Lib.hid (codeE_ok (m := n) hp.out (by omega))
  have c2 := Lib.hid (codeL_ok (m := n) hp.out (by omega))
  have c3 := Lib.hid (codeE_ok (m := f) hp.out (by omega))
  have c4 := Lib.hid (codeL_ok (m := f) hp.out (by omega))
  have c5 := Lib.hid (spread_turned (p := p) (n := (n : Int)) (f := (f : Int)) c1.out c3.out (by omega))
  have d1 : decide ((f : Int) ≤ n) = true := decide_eq_true (by omega)
  have d2 : decide (f ≤ n) = true := decide_eq_true (by omega)
  have nil0 : (str []).toList = [] := by rw [ByteArray.toList_eq]; rfl
  go_enter Try.func7, Try.ntmps7
  go_wp2_with fail
  refine (SFew_any P _).mono ?_
  rintro z w0 ⟨rfl, rfl⟩
  rw [ep.out]
  go_wp2_with fail
  rw [en.out]
  refine (Code_any p n _).mono ?_
  rintro z w1 ⟨rfl, bz⟩
  rw [c1.out, c2.out]
  have B1 := Lib.hid bz
  clear bz
  go_wp2_with fail
  rw [ef.out]
  refine (Code_any p f _).mono ?_
  rintro z w2 ⟨rfl, bz⟩
  rw [c3.out, c4.out]
  have B2 := Lib.hid (B1.out.trans (bz.mono B1.out.size))
  clear bz
  go_wp2_with fail
  refine (Spread_any p n f _).mono ?_
  rintro z w3 ⟨rfl, bz⟩
  rw [c5.out.1, c5.out.2]
  have B3 := Lib.hid (B2.out.trans (bz.mono B2.out.size))
  clear bz
  go_wp2_with fail
  refine (SKnown_any _).mono ?_
  rintro z w4 ⟨rfl, bz⟩
  have B4 := Lib.hid (B3.out.trans (bz.mono B3.out.size))
  clear bz
  go_wp2_with fail
  go_ret
  exact ⟨rfl, B4.out⟩

set_option maxRecDepth 100000 in
set_option maxHeartbeats 4000000 in
theorem SSpreads_np_yes (P p : List UInt8) (near far : Int) (n f : Nat) (w : World) (n1 : -9223372036854775808 ≤ near) (n2 : near ≤ 9223372036854775807) (f1 : -9223372036854775808 ≤ far) (f2 : far ≤ 9223372036854775807)
    (hn : near < 0) (hf : 0 ≤ far) (en : Hid (-(near + 1).tmod 1200 = (n : Int))) (ef : Hid (far % 1200 = (f : Int))) (n3 : n < 1200) (f3 : f < 1200) (ep : Hid (P.take 60 = p)) (hp : Hid (prodB p = true)) (hlt : n < f) :
    Calls Try.prog 7 #[.string (str P), .int .i64 near, .int .i64 far] w fun e w' => e = .returned (.bool true) ∧ Below w.heap.size w w' := by
  have c1 := Lib.hid (codeE_ok (m := n) hp.out (by omega))
  have c2 := Lib.hid (codeL_ok (m := n) hp.out (by omega))
  have c3 := Lib.hid (codeE_ok (m := f) hp.out (by omega))
  have c4 := Lib.hid (codeL_ok (m := f) hp.out (by omega))
  have c5 := Lib.hid (spread_ok (p := p) (n := (n : Int)) (f := (f : Int)) c1.out c3.out (by omega))
  have d1 : decide ((f : Int) ≤ n) = false := decide_eq_false (by omega)
  have d2 : decide (f ≤ n) = false := decide_eq_false (by omega)
  have pl := prodB_len hp.out
  obtain ⟨a, ea⟩ : ∃ a, p ++ tail n = a := ⟨_, rfl⟩
  obtain ⟨b, eb⟩ : ∃ b, p ++ tail f = b := ⟨_, rfl⟩
  have k1 := Lib.hid (parse_none (parse_spread (a := p ++ tail n) (p := p) (f := f)))
  have k2 := Lib.hid (spread_none (spread_code hp.out n3))
  have k3 := Lib.hid (spread_none (spread_back hp.out n3 f3 hlt))
  have k4 := Lib.hid (spread_some (spread_name hp.out n3 f3 hlt))
  have al : a.length ≤ 11 := by rw [← ea, code_len]; omega
  have bl : b.length ≤ 11 := by rw [← eb, code_len]; omega
  rw [ea, eb] at k1 k3 k4
  rw [ea] at k2 c2
  rw [eb] at c4
  rw [c2.out, c4.out] at c5
  clear ea eb
  have e45 : (⟨#[45]⟩ : ByteArray) = str [45] := rfl
  have z0 : (str [45]).size = 1 := rfl
  have z1 : (str a).size ≤ 11 := by rw [str_size]; exact al
  have z2 : (str b).size ≤ 11 := by rw [str_size]; exact bl
  have l1 : (a ++ 45 :: b).length ≤ 23 := by rw [List.length_append, List.length_cons]; omega
  have l2 : (b ++ 45 :: a).length ≤ 23 := by rw [List.length_append, List.length_cons]; omega
  have j1 : str a ++ str [45] ++ str b = str (a ++ 45 :: b) := by rw [str_append, str_append]; simp
  have j2 : str b ++ str [45] ++ str a = str (b ++ 45 :: a) := by rw [str_append, str_append]; simp
  go_enter Try.func7, Try.ntmps7
  go_wp2_with fail
  refine (SFew_any P _).mono ?_
  rintro z w0 ⟨rfl, rfl⟩
  rw [ep.out]
  go_wp2_with fail
  rw [en.out]
  refine (Code_any p n _).mono ?_
  rintro z w1 ⟨rfl, bz⟩
  rw [c1.out, c2.out]
  have B1 := Lib.hid bz
  clear bz
  go_wp2_with fail
  rw [ef.out]
  refine (Code_any p f _).mono ?_
  rintro z w2 ⟨rfl, bz⟩
  rw [c3.out, c4.out]
  have B2 := Lib.hid (B1.out.trans (bz.mono B1.out.size))
  clear bz
  go_wp2_with fail
  refine (Spread_any p n f _).mono ?_
  rintro z w3 ⟨rfl, bz⟩
  rw [c5.out.1, c5.out.2]
  have B3 := Lib.hid (B2.out.trans (bz.mono B2.out.size))
  clear bz
  go_wp2_with fail
  refine (Parse_any _ _ (by omega)).mono ?_
  rintro z w4 ⟨rfl, bz⟩
  rw [k1.out.2.2]
  have B4 := Lib.hid (B3.out.trans (bz.mono B3.out.size))
  clear bz
  go_wp2_with fail
  refine (ParseSpread_any a _ (by omega)).mono ?_
  rintro z w5 ⟨rfl, bz⟩
  rw [k2.out.2.2.2]
  have B5 := Lib.hid (B4.out.trans (bz.mono B4.out.size))
  clear bz
  go_wp2_with fail
  refine (ParseSpread_any _ _ (by omega)).mono ?_
  rintro z w6 ⟨rfl, bz⟩
  rw [k3.out.2.2.2]
  have B6 := Lib.hid (B5.out.trans (bz.mono B5.out.size))
  clear bz
  go_wp2_with fail
  refine (ParseSpread_any _ _ (by omega)).mono ?_
  rintro z w7 ⟨rfl, bz⟩
  rw [k4.out.2.1, k4.out.2.2.1, k4.out.2.2.2]
  have B7 := Lib.hid (B6.out.trans (bz.mono B6.out.size))
  clear bz
  go_wp2_with fail
  refine (SKnown_any _).mono ?_
  rintro z w8 ⟨rfl, bz⟩
  have B8 := Lib.hid (B7.out.trans (bz.mono B7.out.size))
  clear bz
  go_wp2_with fail
  go_ret
  exact ⟨rfl, B8.out⟩

set_option maxRecDepth 100000 in
set_option maxHeartbeats 4000000 in
theorem SSpreads_np (P p : List UInt8) (near far : Int) (n f : Nat) (w : World) (n1 : -9223372036854775808 ≤ near) (n2 : near ≤ 9223372036854775807) (f1 : -9223372036854775808 ≤ far) (f2 : far ≤ 9223372036854775807)
    (hn : near < 0) (hf : 0 ≤ far) (en : Hid (-(near + 1).tmod 1200 = (n : Int))) (ef : Hid (far % 1200 = (f : Int))) (n3 : n < 1200) (f3 : f < 1200) (ep : Hid (P.take 60 = p)) :
    Calls Try.prog 7 #[.string (str P), .int .i64 near, .int .i64 far] w fun e w' => e = .returned (.bool true) ∧ Below w.heap.size w w' := by
  cases hp : prodB p
  · exact SSpreads_np_no P p near far n f w n1 n2 f1 f2 hn hf en ef n3 f3 ep (Lib.hid hp)
  · by_cases h : n < f
    · exact SSpreads_np_yes P p near far n f w n1 n2 f1 f2 hn hf en ef n3 f3 ep (Lib.hid hp) h
    · exact SSpreads_np_turned P p near far n f w n1 n2 f1 f2 hn hf en ef n3 f3 ep (Lib.hid hp) (by omega)

set_option maxRecDepth 100000 in
set_option maxHeartbeats 4000000 in
theorem SSpreads_pn_no (P p : List UInt8) (near far : Int) (n f : Nat) (w : World) (n1 : -9223372036854775808 ≤ near) (n2 : near ≤ 9223372036854775807) (f1 : -9223372036854775808 ≤ far) (f2 : far ≤ 9223372036854775807)
    (hn : 0 ≤ near) (hf : far < 0) (en : Hid (near % 1200 = (n : Int))) (ef : Hid (-(far + 1).tmod 1200 = (f : Int))) (n3 : n < 1200) (f3 : f < 1200) (ep : Hid (P.take 60 = p)) (hp : Hid (prodB p = false)) :
    Calls Try.prog 7 #[.string (str P), .int .i64 near, .int .i64 far] w fun e w' => e = .returned (.bool true) ∧ Below w.heap.size w w' := by
  have c1 := Lib.hid (codeE_bad (m := (n : Int)) hp.out)
  have c2 := Lib.hid (codeL_no (p := p) (m := (n : Int)) (by rw [c1.out]; decide))
  have c3 := Lib.hid (codeE_bad (m := (f : Int)) hp.out)
  have c4 := Lib.hid (codeL_no (p := p) (m := (f : Int)) (by rw [c3.out]; decide))
  have c5 := Lib.hid (spread_near (p := p) (n := (n : Int)) (f := (f : Int)) (by rw [c1.out]; decide))
  have nil0 : (str []).toList = [] := by rw [ByteArray.toList_eq]; rfl
  go_enter Try.func7, Try.ntmps7
  go_wp2_with fail
  refine (SFew_any P _).mono ?_
  rintro z w0 ⟨rfl, rfl⟩
  rw [ep.out]
  go_wp2_with fail
  rw [en.out]
  refine (Code_any p n _).mono ?_
  rintro z w1 ⟨rfl, bz⟩
  rw [c1.out, c2.out]
  have B1 := Lib.hid bz
  clear bz
  go_wp2_with fail
  rw [ef.out]
  refine (Code_any p f _).mono ?_
  rintro z w2 ⟨rfl, bz⟩
  rw [c3.out, c4.out]
  have B2 := Lib.hid (B1.out.trans (bz.mono B1.out.size))
  clear bz
  go_wp2_with fail
  refine (Spread_any p n f _).mono ?_
  rintro z w3 ⟨rfl, bz⟩
  rw [c5.out.1, c5.out.2, c1.out]
  have B3 := Lib.hid (B2.out.trans (bz.mono B2.out.size))
  clear bz
  go_wp2_with fail
  refine (SKnown_any _).mono ?_
  rintro z w4 ⟨rfl, bz⟩
  have B4 := Lib.hid (B3.out.trans (bz.mono B3.out.size))
  clear bz
  go_wp2_with fail
  go_ret
  exact ⟨rfl, B4.out⟩

set_option maxRecDepth 100000 in
set_option maxHeartbeats 4000000 in
theorem SSpreads_pn_turned (P p : List UInt8) (near far : Int) (n f : Nat) (w : World) (n1 : -9223372036854775808 ≤ near) (n2 : near ≤ 9223372036854775807) (f1 : -9223372036854775808 ≤ far) (f2 : far ≤ 9223372036854775807)
    (hn : 0 ≤ near) (hf : far < 0) (en : Hid (near % 1200 = (n : Int))) (ef : Hid (-(far + 1).tmod 1200 = (f : Int))) (n3 : n < 1200) (f3 : f < 1200) (ep : Hid (P.take 60 = p)) (hp : Hid (prodB p = true)) (hle : f ≤ n) :
    Calls Try.prog 7 #[.string (str P), .int .i64 near, .int .i64 far] w fun e w' => e = .returned (.bool true) ∧ Below w.heap.size w w' := by
  have c1 := Lib.hid (codeE_ok (m := n) hp.out (by omega))
  have c2 := Lib.hid (codeL_ok (m := n) hp.out (by omega))
  have c3 := Lib.hid (codeE_ok (m := f) hp.out (by omega))
  have c4 := Lib.hid (codeL_ok (m := f) hp.out (by omega))
  have c5 := Lib.hid (spread_turned (p := p) (n := (n : Int)) (f := (f : Int)) c1.out c3.out (by omega))
  have d1 : decide ((f : Int) ≤ n) = true := decide_eq_true (by omega)
  have d2 : decide (f ≤ n) = true := decide_eq_true (by omega)
  have nil0 : (str []).toList = [] := by rw [ByteArray.toList_eq]; rfl
  go_enter Try.func7, Try.ntmps7
  go_wp2_with fail
  refine (SFew_any P _).mono ?_
  rintro z w0 ⟨rfl, rfl⟩
  rw [ep.out]
  go_wp2_with fail
  rw [en.out]
  refine (Code_any p n _).mono ?_
  rintro z w1 ⟨rfl, bz⟩
  rw [c1.out, c2.out]
  have B1 := Lib.hid bz
  clear bz
  go_wp2_with fail
  rw [ef.out]
  refine (Code_any p f _).mono ?_
  rintro z w2 ⟨rfl, bz⟩
  rw [c3.out, c4.out]
  have B2 := Lib.hid (B1.out.trans (bz.mono B1.out.size))
  clear bz
  go_wp2_with fail
  refine (Spread_any p n f _).mono ?_
  rintro z w3 ⟨rfl, bz⟩
  rw [c5.out.1, c5.out.2]
  have B3 := Lib.hid (B2.out.trans (bz.mono B2.out.size))
  clear bz
  go_wp2_with fail
  refine (SKnown_any _).mono ?_
  rintro z w4 ⟨rfl, bz⟩
  have B4 := Lib.hid (B3.out.trans (bz.mono B3.out.size))
  clear bz
  go_wp2_with fail
  go_ret
  exact ⟨rfl, B4.out⟩

set_option maxRecDepth 100000 in
set_option maxHeartbeats 4000000 in
theorem SSpreads_pn_yes (P p : List UInt8) (near far : Int) (n f : Nat) (w : World) (n1 : -9223372036854775808 ≤ near) (n2 : near ≤ 9223372036854775807) (f1 : -9223372036854775808 ≤ far) (f2 : far ≤ 9223372036854775807)
    (hn : 0 ≤ near) (hf : far < 0) (en : Hid (near % 1200 = (n : Int))) (ef : Hid (-(far + 1).tmod 1200 = (f : Int))) (n3 : n < 1200) (f3 : f < 1200) (ep : Hid (P.take 60 = p)) (hp : Hid (prodB p = true)) (hlt : n < f) :
    Calls Try.prog 7 #[.string (str P), .int .i64 near, .int .i64 far] w fun e w' => e = .returned (.bool true) ∧ Below w.heap.size w w' := by
  have c1 := Lib.hid (codeE_ok (m := n) hp.out (by omega))
  have c2 := Lib.hid (codeL_ok (m := n) hp.out (by omega))
  have c3 := Lib.hid (codeE_ok (m := f) hp.out (by omega))
  have c4 := Lib.hid (codeL_ok (m := f) hp.out (by omega))
  have c5 := Lib.hid (spread_ok (p := p) (n := (n : Int)) (f := (f : Int)) c1.out c3.out (by omega))
  have d1 : decide ((f : Int) ≤ n) = false := decide_eq_false (by omega)
  have d2 : decide (f ≤ n) = false := decide_eq_false (by omega)
  have pl := prodB_len hp.out
  obtain ⟨a, ea⟩ : ∃ a, p ++ tail n = a := ⟨_, rfl⟩
  obtain ⟨b, eb⟩ : ∃ b, p ++ tail f = b := ⟨_, rfl⟩
  have k1 := Lib.hid (parse_none (parse_spread (a := p ++ tail n) (p := p) (f := f)))
  have k2 := Lib.hid (spread_none (spread_code hp.out n3))
  have k3 := Lib.hid (spread_none (spread_back hp.out n3 f3 hlt))
  have k4 := Lib.hid (spread_some (spread_name hp.out n3 f3 hlt))
  have al : a.length ≤ 11 := by rw [← ea, code_len]; omega
  have bl : b.length ≤ 11 := by rw [← eb, code_len]; omega
  rw [ea, eb] at k1 k3 k4
  rw [ea] at k2 c2
  rw [eb] at c4
  rw [c2.out, c4.out] at c5
  clear ea eb
  have e45 : (⟨#[45]⟩ : ByteArray) = str [45] := rfl
  have z0 : (str [45]).size = 1 := rfl
  have z1 : (str a).size ≤ 11 := by rw [str_size]; exact al
  have z2 : (str b).size ≤ 11 := by rw [str_size]; exact bl
  have l1 : (a ++ 45 :: b).length ≤ 23 := by rw [List.length_append, List.length_cons]; omega
  have l2 : (b ++ 45 :: a).length ≤ 23 := by rw [List.length_append, List.length_cons]; omega
  have j1 : str a ++ str [45] ++ str b = str (a ++ 45 :: b) := by rw [str_append, str_append]; simp
  have j2 : str b ++ str [45] ++ str a = str (b ++ 45 :: a) := by rw [str_append, str_append]; simp
  go_enter Try.func7, Try.ntmps7
  go_wp2_with fail
  refine (SFew_any P _).mono ?_
  rintro z w0 ⟨rfl, rfl⟩
  rw [ep.out]
  go_wp2_with fail
  rw [en.out]
  refine (Code_any p n _).mono ?_
  rintro z w1 ⟨rfl, bz⟩
  rw [c1.out, c2.out]
  have B1 := Lib.hid bz
  clear bz
  go_wp2_with fail
  rw [ef.out]
  refine (Code_any p f _).mono ?_
  rintro z w2 ⟨rfl, bz⟩
  rw [c3.out, c4.out]
  have B2 := Lib.hid (B1.out.trans (bz.mono B1.out.size))
  clear bz
  go_wp2_with fail
  refine (Spread_any p n f _).mono ?_
  rintro z w3 ⟨rfl, bz⟩
  rw [c5.out.1, c5.out.2]
  have B3 := Lib.hid (B2.out.trans (bz.mono B2.out.size))
  clear bz
  go_wp2_with fail
  refine (Parse_any _ _ (by omega)).mono ?_
  rintro z w4 ⟨rfl, bz⟩
  rw [k1.out.2.2]
  have B4 := Lib.hid (B3.out.trans (bz.mono B3.out.size))
  clear bz
  go_wp2_with fail
  refine (ParseSpread_any a _ (by omega)).mono ?_
  rintro z w5 ⟨rfl, bz⟩
  rw [k2.out.2.2.2]
  have B5 := Lib.hid (B4.out.trans (bz.mono B4.out.size))
  clear bz
  go_wp2_with fail
  refine (ParseSpread_any _ _ (by omega)).mono ?_
  rintro z w6 ⟨rfl, bz⟩
  rw [k3.out.2.2.2]
  have B6 := Lib.hid (B5.out.trans (bz.mono B5.out.size))
  clear bz
  go_wp2_with fail
  refine (ParseSpread_any _ _ (by omega)).mono ?_
  rintro z w7 ⟨rfl, bz⟩
  rw [k4.out.2.1, k4.out.2.2.1, k4.out.2.2.2]
  have B7 := Lib.hid (B6.out.trans (bz.mono B6.out.size))
  clear bz
  go_wp2_with fail
  refine (SKnown_any _).mono ?_
  rintro z w8 ⟨rfl, bz⟩
  have B8 := Lib.hid (B7.out.trans (bz.mono B7.out.size))
  clear bz
  go_wp2_with fail
  go_ret
  exact ⟨rfl, B8.out⟩

set_option maxRecDepth 100000 in
set_option maxHeartbeats 4000000 in
theorem SSpreads_pn (P p : List UInt8) (near far : Int) (n f : Nat) (w : World) (n1 : -9223372036854775808 ≤ near) (n2 : near ≤ 9223372036854775807) (f1 : -9223372036854775808 ≤ far) (f2 : far ≤ 9223372036854775807)
    (hn : 0 ≤ near) (hf : far < 0) (en : Hid (near % 1200 = (n : Int))) (ef : Hid (-(far + 1).tmod 1200 = (f : Int))) (n3 : n < 1200) (f3 : f < 1200) (ep : Hid (P.take 60 = p)) :
    Calls Try.prog 7 #[.string (str P), .int .i64 near, .int .i64 far] w fun e w' => e = .returned (.bool true) ∧ Below w.heap.size w w' := by
  cases hp : prodB p
  · exact SSpreads_pn_no P p near far n f w n1 n2 f1 f2 hn hf en ef n3 f3 ep (Lib.hid hp)
  · by_cases h : n < f
    · exact SSpreads_pn_yes P p near far n f w n1 n2 f1 f2 hn hf en ef n3 f3 ep (Lib.hid hp) h
    · exact SSpreads_pn_turned P p near far n f w n1 n2 f1 f2 hn hf en ef n3 f3 ep (Lib.hid hp) (by omega)

set_option maxRecDepth 100000 in
set_option maxHeartbeats 4000000 in
theorem SSpreads_pp_no (P p : List UInt8) (near far : Int) (n f : Nat) (w : World) (n1 : -9223372036854775808 ≤ near) (n2 : near ≤ 9223372036854775807) (f1 : -9223372036854775808 ≤ far) (f2 : far ≤ 9223372036854775807)
    (hn : 0 ≤ near) (hf : 0 ≤ far) (en : Hid (near % 1200 = (n : Int))) (ef : Hid (far % 1200 = (f : Int))) (n3 : n < 1200) (f3 : f < 1200) (ep : Hid (P.take 60 = p)) (hp : Hid (prodB p = false)) :
    Calls Try.prog 7 #[.string (str P), .int .i64 near, .int .i64 far] w fun e w' => e = .returned (.bool true) ∧ Below w.heap.size w w' := by
  have c1 := Lib.hid (codeE_bad (m := (n : Int)) hp.out)
  have c2 := Lib.hid (codeL_no (p := p) (m := (n : Int)) (by rw [c1.out]; decide))
  have c3 := Lib.hid (codeE_bad (m := (f : Int)) hp.out)
  have c4 := Lib.hid (codeL_no (p := p) (m := (f : Int)) (by rw [c3.out]; decide))
  have c5 := Lib.hid (spread_near (p := p) (n := (n : Int)) (f := (f : Int)) (by rw [c1.out]; decide))
  have nil0 : (str []).toList = [] := by rw [ByteArray.toList_eq]; rfl
  go_enter Try.func7, Try.ntmps7
  go_wp2_with fail
  refine (SFew_any P _).mono ?_
  rintro z w0 ⟨rfl, rfl⟩
  rw [ep.out]
  go_wp2_with fail
  rw [en.out]
  refine (Code_any p n _).mono ?_
  rintro z w1 ⟨rfl, bz⟩
  rw [c1.out, c2.out]
  have B1 := Lib.hid bz
  clear bz
  go_wp2_with fail
  rw [ef.out]
  refine (Code_any p f _).mono ?_
  rintro z w2 ⟨rfl, bz⟩
  rw [c3.out, c4.out]
  have B2 := Lib.hid (B1.out.trans (bz.mono B1.out.size))
  clear bz
  go_wp2_with fail
  refine (Spread_any p n f _).mono ?_
  rintro z w3 ⟨rfl, bz⟩
  rw [c5.out.1, c5.out.2, c1.out]
  have B3 := Lib.hid (B2.out.trans (bz.mono B2.out.size))
  clear bz
  go_wp2_with fail
  refine (SKnown_any _).mono ?_
  rintro z w4 ⟨rfl, bz⟩
  have B4 := Lib.hid (B3.out.trans (bz.mono B3.out.size))
  clear bz
  go_wp2_with fail
  go_ret
  exact ⟨rfl, B4.out⟩

set_option maxRecDepth 100000 in
set_option maxHeartbeats 4000000 in
theorem SSpreads_pp_turned (P p : List UInt8) (near far : Int) (n f : Nat) (w : World) (n1 : -9223372036854775808 ≤ near) (n2 : near ≤ 9223372036854775807) (f1 : -9223372036854775808 ≤ far) (f2 : far ≤ 9223372036854775807)
    (hn : 0 ≤ near) (hf : 0 ≤ far) (en : Hid (near % 1200 = (n : Int))) (ef : Hid (far % 1200 = (f : Int))) (n3 : n < 1200) (f3 : f < 1200) (ep : Hid (P.take 60 = p)) (hp : Hid (prodB p = true)) (hle : f ≤ n) :
    Calls Try.prog 7 #[.string (str P), .int .i64 near, .int .i64 far] w fun e w' => e = .returned (.bool true) ∧ Below w.heap.size w w' := by
  have c1 := Lib.hid (codeE_ok (m := n) hp.out (by omega))
  have c2 := Lib.hid (codeL_ok (m := n) hp.out (by omega))
  have c3 := Lib.hid (codeE_ok (m := f) hp.out (by omega))
  have c4 := Lib.hid (codeL_ok (m := f) hp.out (by omega))
  have c5 := Lib.hid (spread_turned (p := p) (n := (n : Int)) (f := (f : Int)) c1.out c3.out (by omega))
  have d1 : decide ((f : Int) ≤ n) = true := decide_eq_true (by omega)
  have d2 : decide (f ≤ n) = true := decide_eq_true (by omega)
  have nil0 : (str []).toList = [] := by rw [ByteArray.toList_eq]; rfl
  go_enter Try.func7, Try.ntmps7
  go_wp2_with fail
  refine (SFew_any P _).mono ?_
  rintro z w0 ⟨rfl, rfl⟩
  rw [ep.out]
  go_wp2_with fail
  rw [en.out]
  refine (Code_any p n _).mono ?_
  rintro z w1 ⟨rfl, bz⟩
  rw [c1.out, c2.out]
  have B1 := Lib.hid bz
  clear bz
  go_wp2_with fail
  rw [ef.out]
  refine (Code_any p f _).mono ?_
  rintro z w2 ⟨rfl, bz⟩
  rw [c3.out, c4.out]
  have B2 := Lib.hid (B1.out.trans (bz.mono B1.out.size))
  clear bz
  go_wp2_with fail
  refine (Spread_any p n f _).mono ?_
  rintro z w3 ⟨rfl, bz⟩
  rw [c5.out.1, c5.out.2]
  have B3 := Lib.hid (B2.out.trans (bz.mono B2.out.size))
  clear bz
  go_wp2_with fail
  refine (SKnown_any _).mono ?_
  rintro z w4 ⟨rfl, bz⟩
  have B4 := Lib.hid (B3.out.trans (bz.mono B3.out.size))
  clear bz
  go_wp2_with fail
  go_ret
  exact ⟨rfl, B4.out⟩

set_option maxRecDepth 100000 in
set_option maxHeartbeats 4000000 in
theorem SSpreads_pp_yes (P p : List UInt8) (near far : Int) (n f : Nat) (w : World) (n1 : -9223372036854775808 ≤ near) (n2 : near ≤ 9223372036854775807) (f1 : -9223372036854775808 ≤ far) (f2 : far ≤ 9223372036854775807)
    (hn : 0 ≤ near) (hf : 0 ≤ far) (en : Hid (near % 1200 = (n : Int))) (ef : Hid (far % 1200 = (f : Int))) (n3 : n < 1200) (f3 : f < 1200) (ep : Hid (P.take 60 = p)) (hp : Hid (prodB p = true)) (hlt : n < f) :
    Calls Try.prog 7 #[.string (str P), .int .i64 near, .int .i64 far] w fun e w' => e = .returned (.bool true) ∧ Below w.heap.size w w' := by
  have c1 := Lib.hid (codeE_ok (m := n) hp.out (by omega))
  have c2 := Lib.hid (codeL_ok (m := n) hp.out (by omega))
  have c3 := Lib.hid (codeE_ok (m := f) hp.out (by omega))
  have c4 := Lib.hid (codeL_ok (m := f) hp.out (by omega))
  have c5 := Lib.hid (spread_ok (p := p) (n := (n : Int)) (f := (f : Int)) c1.out c3.out (by omega))
  have d1 : decide ((f : Int) ≤ n) = false := decide_eq_false (by omega)
  have d2 : decide (f ≤ n) = false := decide_eq_false (by omega)
  have pl := prodB_len hp.out
  obtain ⟨a, ea⟩ : ∃ a, p ++ tail n = a := ⟨_, rfl⟩
  obtain ⟨b, eb⟩ : ∃ b, p ++ tail f = b := ⟨_, rfl⟩
  have k1 := Lib.hid (parse_none (parse_spread (a := p ++ tail n) (p := p) (f := f)))
  have k2 := Lib.hid (spread_none (spread_code hp.out n3))
  have k3 := Lib.hid (spread_none (spread_back hp.out n3 f3 hlt))
  have k4 := Lib.hid (spread_some (spread_name hp.out n3 f3 hlt))
  have al : a.length ≤ 11 := by rw [← ea, code_len]; omega
  have bl : b.length ≤ 11 := by rw [← eb, code_len]; omega
  rw [ea, eb] at k1 k3 k4
  rw [ea] at k2 c2
  rw [eb] at c4
  rw [c2.out, c4.out] at c5
  clear ea eb
  have e45 : (⟨#[45]⟩ : ByteArray) = str [45] := rfl
  have z0 : (str [45]).size = 1 := rfl
  have z1 : (str a).size ≤ 11 := by rw [str_size]; exact al
  have z2 : (str b).size ≤ 11 := by rw [str_size]; exact bl
  have l1 : (a ++ 45 :: b).length ≤ 23 := by rw [List.length_append, List.length_cons]; omega
  have l2 : (b ++ 45 :: a).length ≤ 23 := by rw [List.length_append, List.length_cons]; omega
  have j1 : str a ++ str [45] ++ str b = str (a ++ 45 :: b) := by rw [str_append, str_append]; simp
  have j2 : str b ++ str [45] ++ str a = str (b ++ 45 :: a) := by rw [str_append, str_append]; simp
  go_enter Try.func7, Try.ntmps7
  go_wp2_with fail
  refine (SFew_any P _).mono ?_
  rintro z w0 ⟨rfl, rfl⟩
  rw [ep.out]
  go_wp2_with fail
  rw [en.out]
  refine (Code_any p n _).mono ?_
  rintro z w1 ⟨rfl, bz⟩
  rw [c1.out, c2.out]
  have B1 := Lib.hid bz
  clear bz
  go_wp2_with fail
  rw [ef.out]
  refine (Code_any p f _).mono ?_
  rintro z w2 ⟨rfl, bz⟩
  rw [c3.out, c4.out]
  have B2 := Lib.hid (B1.out.trans (bz.mono B1.out.size))
  clear bz
  go_wp2_with fail
  refine (Spread_any p n f _).mono ?_
  rintro z w3 ⟨rfl, bz⟩
  rw [c5.out.1, c5.out.2]
  have B3 := Lib.hid (B2.out.trans (bz.mono B2.out.size))
  clear bz
  go_wp2_with fail
  refine (Parse_any _ _ (by omega)).mono ?_
  rintro z w4 ⟨rfl, bz⟩
  rw [k1.out.2.2]
  have B4 := Lib.hid (B3.out.trans (bz.mono B3.out.size))
  clear bz
  go_wp2_with fail
  refine (ParseSpread_any a _ (by omega)).mono ?_
  rintro z w5 ⟨rfl, bz⟩
  rw [k2.out.2.2.2]
  have B5 := Lib.hid (B4.out.trans (bz.mono B4.out.size))
  clear bz
  go_wp2_with fail
  refine (ParseSpread_any _ _ (by omega)).mono ?_
  rintro z w6 ⟨rfl, bz⟩
  rw [k3.out.2.2.2]
  have B6 := Lib.hid (B5.out.trans (bz.mono B5.out.size))
  clear bz
  go_wp2_with fail
  refine (ParseSpread_any _ _ (by omega)).mono ?_
  rintro z w7 ⟨rfl, bz⟩
  rw [k4.out.2.1, k4.out.2.2.1, k4.out.2.2.2]
  have B7 := Lib.hid (B6.out.trans (bz.mono B6.out.size))
  clear bz
  go_wp2_with fail
  refine (SKnown_any _).mono ?_
  rintro z w8 ⟨rfl, bz⟩
  have B8 := Lib.hid (B7.out.trans (bz.mono B7.out.size))
  clear bz
  go_wp2_with fail
  go_ret
  exact ⟨rfl, B8.out⟩

set_option maxRecDepth 100000 in
set_option maxHeartbeats 4000000 in
theorem SSpreads_pp (P p : List UInt8) (near far : Int) (n f : Nat) (w : World) (n1 : -9223372036854775808 ≤ near) (n2 : near ≤ 9223372036854775807) (f1 : -9223372036854775808 ≤ far) (f2 : far ≤ 9223372036854775807)
    (hn : 0 ≤ near) (hf : 0 ≤ far) (en : Hid (near % 1200 = (n : Int))) (ef : Hid (far % 1200 = (f : Int))) (n3 : n < 1200) (f3 : f < 1200) (ep : Hid (P.take 60 = p)) :
    Calls Try.prog 7 #[.string (str P), .int .i64 near, .int .i64 far] w fun e w' => e = .returned (.bool true) ∧ Below w.heap.size w w' := by
  cases hp : prodB p
  · exact SSpreads_pp_no P p near far n f w n1 n2 f1 f2 hn hf en ef n3 f3 ep (Lib.hid hp)
  · by_cases h : n < f
    · exact SSpreads_pp_yes P p near far n f w n1 n2 f1 f2 hn hf en ef n3 f3 ep (Lib.hid hp) h
    · exact SSpreads_pp_turned P p near far n f w n1 n2 f1 f2 hn hf en ef n3 f3 ep (Lib.hid hp) (by omega)

theorem SSpreads_walk (P : List UInt8) (near far : Int) (w : World) (n1 : -9223372036854775808 ≤ near) (n2 : near ≤ 9223372036854775807) (f1 : -9223372036854775808 ≤ far) (f2 : far ≤ 9223372036854775807) :
    Calls Try.prog 7 #[.string (str P), .int .i64 near, .int .i64 far] w fun e w' => e = .returned (.bool true) ∧ Below w.heap.size w w' := by
  by_cases hn : near < 0
  · obtain ⟨n, n3, en⟩ := mod_neg 1200 hn (by omega)
    by_cases hf : far < 0
    · obtain ⟨f, f3, ef⟩ := mod_neg 1200 hf (by omega)
      exact SSpreads_nn P _ near far n f w n1 n2 f1 f2 hn hf (Lib.hid en) (Lib.hid ef) n3 f3 (Lib.hid rfl)
    · obtain ⟨f, f3, ef⟩ := mod_pos 1200 (Int.not_lt.1 hf) (by omega)
      exact SSpreads_np P _ near far n f w n1 n2 f1 f2 hn (Int.not_lt.1 hf) (Lib.hid en) (Lib.hid ef) n3 f3 (Lib.hid rfl)
  · obtain ⟨n, n3, en⟩ := mod_pos 1200 (Int.not_lt.1 hn) (by omega)
    by_cases hf : far < 0
    · obtain ⟨f, f3, ef⟩ := mod_neg 1200 hf (by omega)
      exact SSpreads_pn P _ near far n f w n1 n2 f1 f2 (Int.not_lt.1 hn) hf (Lib.hid en) (Lib.hid ef) n3 f3 (Lib.hid rfl)
    · obtain ⟨f, f3, ef⟩ := mod_pos 1200 (Int.not_lt.1 hf) (by omega)
      exact SSpreads_pp P _ near far n f w n1 n2 f1 f2 (Int.not_lt.1 hn) (Int.not_lt.1 hf) (Lib.hid en) (Lib.hid ef) n3 f3 (Lib.hid rfl)
end Go.Proofs.Ytfhegnmfkmolbaa
