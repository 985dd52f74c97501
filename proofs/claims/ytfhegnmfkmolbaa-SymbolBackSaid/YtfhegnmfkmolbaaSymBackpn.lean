/-
  The walk of the law SymbolBack, by signs.
-/
import Derived.Test.YtfhegnmfkmolbaaSymFacts
namespace Go.Proofs.Ytfhegnmfkmolbaa
open Go.RowKit
set_option linter.unusedVariables false
set_option linter.unusedSimpArgs false

set_option maxRecDepth 100000 in
set_option maxHeartbeats 8000000 in
theorem SBack_pn_no (P p S s : List UInt8) (near far : Int) (n f : Nat) (w : World) (n1 : -9223372036854775808 ≤ near) (n2 : near ≤ 9223372036854775807) (f1 : -9223372036854775808 ≤ far) (f2 : far ≤ 9223372036854775807)
    (hn : 0 ≤ near) (hf : far < 0) (en : Hid (near % 1200 = (n : Int))) (ef : Hid (-(far + 1).tmod 1200 = (f : Int))) (n3 : n < 1200) (f3 : f < 1200) (ep : Hid (P.take 60 = p)) (es : Hid (S.take 60 = s)) (sl : s.length ≤ 60) (hp : Hid (prodB p = false)) :
    Calls Try.prog 5 #[.string (str P), .int .i64 near, .int .i64 far, .string (str S)] w fun e w' => e = .returned (.bool true) ∧ Below w.heap.size w w' := by
  have c1 := Lib.hid (codeE_bad (m := (n : Int)) hp.out)
  have c2 := Lib.hid (codeL_no (p := p) (m := (n : Int)) (by rw [c1.out]; decide))
  go_enter Try.func5, Try.ntmps5
  go_wp2_with fail
  refine (SFew_any P _).mono ?_
  rintro z w0 ⟨rfl, rfl⟩
  rw [ep.out]
  go_wp2_with fail
  rw [en.out, ef.out]
  refine (Code_any p n _).mono ?_
  rintro z w1 ⟨rfl, bz⟩
  rw [c1.out, c2.out]
  have B1 := Lib.hid bz
  clear bz
  go_wp2_with fail
  refine (Product_any p _).mono ?_
  rintro z w2 ⟨rfl, bz⟩
  rw [hp.out]
  have B2 := Lib.hid (B1.out.trans (bz.mono B1.out.size))
  clear bz
  go_wp2_with fail
  refine (SFew_any S _).mono ?_
  rintro z w0 ⟨rfl, rfl⟩
  rw [es.out]
  rcases pe_ways s with ⟨y1, y2⟩ | ⟨y1, y2⟩
  · have ⟨y3, y4, _⟩ := parse_none y2
    have nil0 : (str []).toList = [] := by rw [ByteArray.toList_eq]; rfl
    have y1 := Lib.hid y1
    have y3 := Lib.hid y3
    have y4 := Lib.hid y4
    go_wp2_with fail
    refine (Parse_any s _ (by omega)).mono ?_
    rintro z w3 ⟨rfl, bz⟩
    rw [y1.out, y3.out, y4.out]
    have B3 := Lib.hid (B2.out.trans (bz.mono B2.out.size))
    clear bz
    go_wp2_with fail
    refine (SKnown_any _).mono ?_
    rintro z w4 ⟨rfl, bz⟩
    have B4 := Lib.hid (B3.out.trans (bz.mono B3.out.size))
    clear bz
    go_wp2_with fail
    go_ret
    exact ⟨rfl, B4.out⟩
  · have ⟨y3, y4⟩ := parse_makes y2
    have y1 := Lib.hid y1
    have y3 := Lib.hid y3
    have y4 := Lib.hid y4
    obtain ⟨q, eq⟩ : ∃ q, pq s = q := ⟨_, rfl⟩
    obtain ⟨m, em⟩ : ∃ m, pm s = m := ⟨_, rfl⟩
    rw [eq, em] at y3 y4
    have eq := Lib.hid eq
    have em := Lib.hid em
    go_wp2_with fail
    refine (Parse_any s _ (by omega)).mono ?_
    rintro z w3 ⟨rfl, bz⟩
    rw [y1.out, eq.out, em.out]
    have B3 := Lib.hid (B2.out.trans (bz.mono B2.out.size))
    clear bz
    go_wp2_with fail
    refine (Code_any q m _).mono ?_
    rintro z w4 ⟨rfl, bz⟩
    rw [y3.out, y4.out]
    have B4 := Lib.hid (B3.out.trans (bz.mono B3.out.size))
    clear bz
    go_wp2_with fail
    refine (SKnown_any _).mono ?_
    rintro z w5 ⟨rfl, bz⟩
    have B5 := Lib.hid (B4.out.trans (bz.mono B4.out.size))
    clear bz
    go_wp2_with fail
    go_ret
    exact ⟨rfl, B5.out⟩

set_option maxRecDepth 100000 in
set_option maxHeartbeats 8000000 in
theorem SBack_pn_lt (P p S s : List UInt8) (near far : Int) (n f : Nat) (w : World) (n1 : -9223372036854775808 ≤ near) (n2 : near ≤ 9223372036854775807) (f1 : -9223372036854775808 ≤ far) (f2 : far ≤ 9223372036854775807)
    (hn : 0 ≤ near) (hf : far < 0) (en : Hid (near % 1200 = (n : Int))) (ef : Hid (-(far + 1).tmod 1200 = (f : Int))) (n3 : n < 1200) (f3 : f < 1200) (ep : Hid (P.take 60 = p)) (es : Hid (S.take 60 = s)) (sl : s.length ≤ 60) (hp : Hid (prodB p = true)) (hlt : n < f) :
    Calls Try.prog 5 #[.string (str P), .int .i64 near, .int .i64 far, .string (str S)] w fun e w' => e = .returned (.bool true) ∧ Below w.heap.size w w' := by
  have c1 := Lib.hid (codeE_ok (m := n) hp.out (by omega))
  have c2 := Lib.hid (codeL_ok (m := n) hp.out (by omega))
  have c3 := Lib.hid (codeE_ok (m := f) hp.out (by omega))
  have c4 := Lib.hid (codeL_ok (m := f) hp.out (by omega))
  have pl := prodB_len hp.out
  obtain ⟨a, ea⟩ : ∃ a, p ++ tail n = a := ⟨_, rfl⟩
  obtain ⟨b, eb⟩ : ∃ b, p ++ tail f = b := ⟨_, rfl⟩
  have k1 := Lib.hid (parse_some (parse_code hp.out n3))
  have al : a.length ≤ 11 := by rw [← ea, code_len]; omega
  have bl : b.length ≤ 11 := by rw [← eb, code_len]; omega
  have hne := str_neq (code_same (p := p) n3 f3 (by omega))
  have t1 : ((n : Int) == (f : Int)) = false := by simp; omega
  have t2 : (n == f) = false := by simp; omega
  have c5 := Lib.hid (spread_ok (p := p) (n := (n : Int)) (f := (f : Int)) c1.out c3.out (by omega))
  have k4 := Lib.hid (spread_some (spread_name hp.out n3 f3 hlt))
  have d1 : decide ((n : Int) < f) = true := decide_eq_true (by omega)
  have d2 : decide (n < f) = true := decide_eq_true hlt
  rw [ea] at k1 c2
  rw [eb] at c4
  rw [c2.out, c4.out] at c5
  rw [ea, eb] at k4 hne
  clear ea eb
  have e45 : (⟨#[45]⟩ : ByteArray) = str [45] := rfl
  have z0 : (str [45]).size = 1 := rfl
  have z1 : (str a).size ≤ 11 := by rw [str_size]; exact al
  have z2 : (str b).size ≤ 11 := by rw [str_size]; exact bl
  have l1 : (a ++ 45 :: b).length ≤ 23 := by rw [List.length_append, List.length_cons]; omega
  have j1 : str a ++ str [45] ++ str b = str (a ++ 45 :: b) := by rw [str_append, str_append]; simp
  go_enter Try.func5, Try.ntmps5
  go_wp2_with fail
  refine (SFew_any P _).mono ?_
  rintro z w0 ⟨rfl, rfl⟩
  rw [ep.out]
  go_wp2_with fail
  rw [en.out, ef.out]
  refine (Code_any p n _).mono ?_
  rintro z w1 ⟨rfl, bz⟩
  rw [c1.out, c2.out]
  have B1 := Lib.hid bz
  clear bz
  go_wp2_with fail
  refine (Product_any p _).mono ?_
  rintro z w2 ⟨rfl, bz⟩
  rw [hp.out]
  have B2 := Lib.hid (B1.out.trans (bz.mono B1.out.size))
  clear bz
  go_wp2_with fail
  refine (Parse_any a _ (by omega)).mono ?_
  rintro z w3 ⟨rfl, bz⟩
  rw [k1.out.1, k1.out.2.1, k1.out.2.2]
  have B3 := Lib.hid (B2.out.trans (bz.mono B2.out.size))
  clear bz
  go_wp2_with fail
  refine (Code_any p f _).mono ?_
  rintro z w4 ⟨rfl, bz⟩
  rw [c3.out, c4.out]
  have B4 := Lib.hid (B3.out.trans (bz.mono B3.out.size))
  clear bz
  go_wp2_with fail
  refine (Spread_any p n f _).mono ?_
  rintro z w5 ⟨rfl, bz⟩
  rw [c5.out.1, c5.out.2]
  have B5 := Lib.hid (B4.out.trans (bz.mono B4.out.size))
  clear bz
  go_wp2_with fail
  refine (ParseSpread_any _ _ (by omega)).mono ?_
  rintro z w6 ⟨rfl, bz⟩
  rw [k4.out.1, k4.out.2.1, k4.out.2.2.1, k4.out.2.2.2]
  have B6 := Lib.hid (B5.out.trans (bz.mono B5.out.size))
  clear bz
  go_wp2_with fail
  refine (SFew_any S _).mono ?_
  rintro z w0 ⟨rfl, rfl⟩
  rw [es.out]
  rcases pe_ways s with ⟨y1, y2⟩ | ⟨y1, y2⟩
  · have ⟨y3, y4, _⟩ := parse_none y2
    have nil0 : (str []).toList = [] := by rw [ByteArray.toList_eq]; rfl
    have y1 := Lib.hid y1
    have y3 := Lib.hid y3
    have y4 := Lib.hid y4
    go_wp2_with fail
    refine (Parse_any s _ (by omega)).mono ?_
    rintro z w7 ⟨rfl, bz⟩
    rw [y1.out, y3.out, y4.out]
    have B7 := Lib.hid (B6.out.trans (bz.mono B6.out.size))
    clear bz
    go_wp2_with fail
    refine (SKnown_any _).mono ?_
    rintro z w8 ⟨rfl, bz⟩
    have B8 := Lib.hid (B7.out.trans (bz.mono B7.out.size))
    clear bz
    go_wp2_with fail
    go_ret
    exact ⟨rfl, B8.out⟩
  · have ⟨y3, y4⟩ := parse_makes y2
    have y1 := Lib.hid y1
    have y3 := Lib.hid y3
    have y4 := Lib.hid y4
    obtain ⟨q, eq⟩ : ∃ q, pq s = q := ⟨_, rfl⟩
    obtain ⟨m, em⟩ : ∃ m, pm s = m := ⟨_, rfl⟩
    rw [eq, em] at y3 y4
    have eq := Lib.hid eq
    have em := Lib.hid em
    go_wp2_with fail
    refine (Parse_any s _ (by omega)).mono ?_
    rintro z w7 ⟨rfl, bz⟩
    rw [y1.out, eq.out, em.out]
    have B7 := Lib.hid (B6.out.trans (bz.mono B6.out.size))
    clear bz
    go_wp2_with fail
    refine (Code_any q m _).mono ?_
    rintro z w8 ⟨rfl, bz⟩
    rw [y3.out, y4.out]
    have B8 := Lib.hid (B7.out.trans (bz.mono B7.out.size))
    clear bz
    go_wp2_with fail
    refine (SKnown_any _).mono ?_
    rintro z w9 ⟨rfl, bz⟩
    have B9 := Lib.hid (B8.out.trans (bz.mono B8.out.size))
    clear bz
    go_wp2_with fail
    go_ret
    exact ⟨rfl, B9.out⟩

set_option maxRecDepth 100000 in
set_option maxHeartbeats 8000000 in
theorem SBack_pn_gt (P p S s : List UInt8) (near far : Int) (n f : Nat) (w : World) (n1 : -9223372036854775808 ≤ near) (n2 : near ≤ 9223372036854775807) (f1 : -9223372036854775808 ≤ far) (f2 : far ≤ 9223372036854775807)
    (hn : 0 ≤ near) (hf : far < 0) (en : Hid (near % 1200 = (n : Int))) (ef : Hid (-(far + 1).tmod 1200 = (f : Int))) (n3 : n < 1200) (f3 : f < 1200) (ep : Hid (P.take 60 = p)) (es : Hid (S.take 60 = s)) (sl : s.length ≤ 60) (hp : Hid (prodB p = true)) (hlt : f < n) :
    Calls Try.prog 5 #[.string (str P), .int .i64 near, .int .i64 far, .string (str S)] w fun e w' => e = .returned (.bool true) ∧ Below w.heap.size w w' := by
  have c1 := Lib.hid (codeE_ok (m := n) hp.out (by omega))
  have c2 := Lib.hid (codeL_ok (m := n) hp.out (by omega))
  have c3 := Lib.hid (codeE_ok (m := f) hp.out (by omega))
  have c4 := Lib.hid (codeL_ok (m := f) hp.out (by omega))
  have pl := prodB_len hp.out
  obtain ⟨a, ea⟩ : ∃ a, p ++ tail n = a := ⟨_, rfl⟩
  obtain ⟨b, eb⟩ : ∃ b, p ++ tail f = b := ⟨_, rfl⟩
  have k1 := Lib.hid (parse_some (parse_code hp.out n3))
  have al : a.length ≤ 11 := by rw [← ea, code_len]; omega
  have bl : b.length ≤ 11 := by rw [← eb, code_len]; omega
  have hne := str_neq (code_same (p := p) n3 f3 (by omega))
  have t1 : ((n : Int) == (f : Int)) = false := by simp; omega
  have t2 : (n == f) = false := by simp; omega
  have c5 := Lib.hid (spread_turned (p := p) (n := (n : Int)) (f := (f : Int)) c1.out c3.out (by omega))
  have d1 : decide ((n : Int) < f) = false := decide_eq_false (by omega)
  have d2 : decide (n < f) = false := decide_eq_false (by omega)
  rw [ea] at k1 c2
  rw [eb] at c4
  rw [ea, eb] at hne
  clear ea eb
  go_enter Try.func5, Try.ntmps5
  go_wp2_with fail
  refine (SFew_any P _).mono ?_
  rintro z w0 ⟨rfl, rfl⟩
  rw [ep.out]
  go_wp2_with fail
  rw [en.out, ef.out]
  refine (Code_any p n _).mono ?_
  rintro z w1 ⟨rfl, bz⟩
  rw [c1.out, c2.out]
  have B1 := Lib.hid bz
  clear bz
  go_wp2_with fail
  refine (Product_any p _).mono ?_
  rintro z w2 ⟨rfl, bz⟩
  rw [hp.out]
  have B2 := Lib.hid (B1.out.trans (bz.mono B1.out.size))
  clear bz
  go_wp2_with fail
  refine (Parse_any a _ (by omega)).mono ?_
  rintro z w3 ⟨rfl, bz⟩
  rw [k1.out.1, k1.out.2.1, k1.out.2.2]
  have B3 := Lib.hid (B2.out.trans (bz.mono B2.out.size))
  clear bz
  go_wp2_with fail
  refine (Code_any p f _).mono ?_
  rintro z w4 ⟨rfl, bz⟩
  rw [c3.out, c4.out]
  have B4 := Lib.hid (B3.out.trans (bz.mono B3.out.size))
  clear bz
  go_wp2_with fail
  refine (Spread_any p n f _).mono ?_
  rintro z w5 ⟨rfl, bz⟩
  rw [c5.out.1, c5.out.2]
  have B5 := Lib.hid (B4.out.trans (bz.mono B4.out.size))
  clear bz
  go_wp2_with fail
  refine (SFew_any S _).mono ?_
  rintro z w0 ⟨rfl, rfl⟩
  rw [es.out]
  rcases pe_ways s with ⟨y1, y2⟩ | ⟨y1, y2⟩
  · have ⟨y3, y4, _⟩ := parse_none y2
    have nil0 : (str []).toList = [] := by rw [ByteArray.toList_eq]; rfl
    have y1 := Lib.hid y1
    have y3 := Lib.hid y3
    have y4 := Lib.hid y4
    go_wp2_with fail
    refine (Parse_any s _ (by omega)).mono ?_
    rintro z w6 ⟨rfl, bz⟩
    rw [y1.out, y3.out, y4.out]
    have B6 := Lib.hid (B5.out.trans (bz.mono B5.out.size))
    clear bz
    go_wp2_with fail
    refine (SKnown_any _).mono ?_
    rintro z w7 ⟨rfl, bz⟩
    have B7 := Lib.hid (B6.out.trans (bz.mono B6.out.size))
    clear bz
    go_wp2_with fail
    go_ret
    exact ⟨rfl, B7.out⟩
  · have ⟨y3, y4⟩ := parse_makes y2
    have y1 := Lib.hid y1
    have y3 := Lib.hid y3
    have y4 := Lib.hid y4
    obtain ⟨q, eq⟩ : ∃ q, pq s = q := ⟨_, rfl⟩
    obtain ⟨m, em⟩ : ∃ m, pm s = m := ⟨_, rfl⟩
    rw [eq, em] at y3 y4
    have eq := Lib.hid eq
    have em := Lib.hid em
    go_wp2_with fail
    refine (Parse_any s _ (by omega)).mono ?_
    rintro z w6 ⟨rfl, bz⟩
    rw [y1.out, eq.out, em.out]
    have B6 := Lib.hid (B5.out.trans (bz.mono B5.out.size))
    clear bz
    go_wp2_with fail
    refine (Code_any q m _).mono ?_
    rintro z w7 ⟨rfl, bz⟩
    rw [y3.out, y4.out]
    have B7 := Lib.hid (B6.out.trans (bz.mono B6.out.size))
    clear bz
    go_wp2_with fail
    refine (SKnown_any _).mono ?_
    rintro z w8 ⟨rfl, bz⟩
    have B8 := Lib.hid (B7.out.trans (bz.mono B7.out.size))
    clear bz
    go_wp2_with fail
    go_ret
    exact ⟨rfl, B8.out⟩

set_option maxRecDepth 100000 in
set_option maxHeartbeats 8000000 in
theorem SBack_pn_eq (P p S s : List UInt8) (near far : Int) (n f : Nat) (w : World) (n1 : -9223372036854775808 ≤ near) (n2 : near ≤ 9223372036854775807) (f1 : -9223372036854775808 ≤ far) (f2 : far ≤ 9223372036854775807)
    (hn : 0 ≤ near) (hf : far < 0) (en : Hid (near % 1200 = (n : Int))) (ef : Hid (-(far + 1).tmod 1200 = (f : Int))) (n3 : n < 1200) (f3 : f < 1200) (ep : Hid (P.take 60 = p)) (es : Hid (S.take 60 = s)) (sl : s.length ≤ 60) (hp : Hid (prodB p = true)) (hnf : n = f) :
    Calls Try.prog 5 #[.string (str P), .int .i64 near, .int .i64 far, .string (str S)] w fun e w' => e = .returned (.bool true) ∧ Below w.heap.size w w' := by
  subst hnf
  have c1 := Lib.hid (codeE_ok (m := n) hp.out (by omega))
  have c2 := Lib.hid (codeL_ok (m := n) hp.out (by omega))
  have c3 := Lib.hid (codeE_ok (m := n) hp.out (by omega))
  have c4 := Lib.hid (codeL_ok (m := n) hp.out (by omega))
  have pl := prodB_len hp.out
  obtain ⟨a, ea⟩ : ∃ a, p ++ tail n = a := ⟨_, rfl⟩
  obtain ⟨b, eb⟩ : ∃ b, p ++ tail n = b := ⟨_, rfl⟩
  have k1 := Lib.hid (parse_some (parse_code hp.out n3))
  have al : a.length ≤ 11 := by rw [← ea, code_len]; omega
  have bl : b.length ≤ 11 := by rw [← eb, code_len]; omega
  have c5 := Lib.hid (spread_turned (p := p) (n := (n : Int)) (f := (n : Int)) c1.out c3.out (by omega))
  have d1 : decide ((n : Int) < n) = false := decide_eq_false (by omega)
  have d2 : decide (n < n) = false := decide_eq_false (by omega)
  obtain rfl : a = b := ea.symm.trans eb
  rw [ea] at k1 c2 c4
  clear ea eb
  go_enter Try.func5, Try.ntmps5
  go_wp2_with fail
  refine (SFew_any P _).mono ?_
  rintro z w0 ⟨rfl, rfl⟩
  rw [ep.out]
  go_wp2_with fail
  rw [en.out, ef.out]
  refine (Code_any p n _).mono ?_
  rintro z w1 ⟨rfl, bz⟩
  rw [c1.out, c2.out]
  have B1 := Lib.hid bz
  clear bz
  go_wp2_with fail
  refine (Product_any p _).mono ?_
  rintro z w2 ⟨rfl, bz⟩
  rw [hp.out]
  have B2 := Lib.hid (B1.out.trans (bz.mono B1.out.size))
  clear bz
  go_wp2_with fail
  refine (Parse_any a _ (by omega)).mono ?_
  rintro z w3 ⟨rfl, bz⟩
  rw [k1.out.1, k1.out.2.1, k1.out.2.2]
  have B3 := Lib.hid (B2.out.trans (bz.mono B2.out.size))
  clear bz
  go_wp2_with fail
  refine (Code_any p n _).mono ?_
  rintro z w4 ⟨rfl, bz⟩
  rw [c1.out, c2.out]
  have B4 := Lib.hid (B3.out.trans (bz.mono B3.out.size))
  clear bz
  go_wp2_with fail
  refine (Spread_any p n n _).mono ?_
  rintro z w5 ⟨rfl, bz⟩
  rw [c5.out.1, c5.out.2]
  have B5 := Lib.hid (B4.out.trans (bz.mono B4.out.size))
  clear bz
  go_wp2_with fail
  refine (SFew_any S _).mono ?_
  rintro z w0 ⟨rfl, rfl⟩
  rw [es.out]
  rcases pe_ways s with ⟨y1, y2⟩ | ⟨y1, y2⟩
  · have ⟨y3, y4, _⟩ := parse_none y2
    have nil0 : (str []).toList = [] := by rw [ByteArray.toList_eq]; rfl
    have y1 := Lib.hid y1
    have y3 := Lib.hid y3
    have y4 := Lib.hid y4
    go_wp2_with fail
    refine (Parse_any s _ (by omega)).mono ?_
    rintro z w6 ⟨rfl, bz⟩
    rw [y1.out, y3.out, y4.out]
    have B6 := Lib.hid (B5.out.trans (bz.mono B5.out.size))
    clear bz
    go_wp2_with fail
    refine (SKnown_any _).mono ?_
    rintro z w7 ⟨rfl, bz⟩
    have B7 := Lib.hid (B6.out.trans (bz.mono B6.out.size))
    clear bz
    go_wp2_with fail
    go_ret
    exact ⟨rfl, B7.out⟩
  · have ⟨y3, y4⟩ := parse_makes y2
    have y1 := Lib.hid y1
    have y3 := Lib.hid y3
    have y4 := Lib.hid y4
    obtain ⟨q, eq⟩ : ∃ q, pq s = q := ⟨_, rfl⟩
    obtain ⟨m, em⟩ : ∃ m, pm s = m := ⟨_, rfl⟩
    rw [eq, em] at y3 y4
    have eq := Lib.hid eq
    have em := Lib.hid em
    go_wp2_with fail
    refine (Parse_any s _ (by omega)).mono ?_
    rintro z w6 ⟨rfl, bz⟩
    rw [y1.out, eq.out, em.out]
    have B6 := Lib.hid (B5.out.trans (bz.mono B5.out.size))
    clear bz
    go_wp2_with fail
    refine (Code_any q m _).mono ?_
    rintro z w7 ⟨rfl, bz⟩
    rw [y3.out, y4.out]
    have B7 := Lib.hid (B6.out.trans (bz.mono B6.out.size))
    clear bz
    go_wp2_with fail
    refine (SKnown_any _).mono ?_
    rintro z w8 ⟨rfl, bz⟩
    have B8 := Lib.hid (B7.out.trans (bz.mono B7.out.size))
    clear bz
    go_wp2_with fail
    go_ret
    exact ⟨rfl, B8.out⟩

set_option maxRecDepth 100000 in
set_option maxHeartbeats 8000000 in
theorem SBack_pn (P p S s : List UInt8) (near far : Int) (n f : Nat) (w : World) (n1 : -9223372036854775808 ≤ near) (n2 : near ≤ 9223372036854775807) (f1 : -9223372036854775808 ≤ far) (f2 : far ≤ 9223372036854775807)
    (hn : 0 ≤ near) (hf : far < 0) (en : Hid (near % 1200 = (n : Int))) (ef : Hid (-(far + 1).tmod 1200 = (f : Int))) (n3 : n < 1200) (f3 : f < 1200) (ep : Hid (P.take 60 = p)) (es : Hid (S.take 60 = s)) (sl : s.length ≤ 60) :
    Calls Try.prog 5 #[.string (str P), .int .i64 near, .int .i64 far, .string (str S)] w fun e w' => e = .returned (.bool true) ∧ Below w.heap.size w w' := by
  cases hp : prodB p
  · exact SBack_pn_no P p S s near far n f w n1 n2 f1 f2 hn hf en ef n3 f3 ep es sl (Lib.hid hp)
  · by_cases h : n < f
    · exact SBack_pn_lt P p S s near far n f w n1 n2 f1 f2 hn hf en ef n3 f3 ep es sl (Lib.hid hp) h
    · by_cases h2 : n = f
      · exact SBack_pn_eq P p S s near far n f w n1 n2 f1 f2 hn hf en ef n3 f3 ep es sl (Lib.hid hp) h2
      · exact SBack_pn_gt P p S s near far n f w n1 n2 f1 f2 hn hf en ef n3 f3 ep es sl (Lib.hid hp) (by omega)
end Go.Proofs.Ytfhegnmfkmolbaa
