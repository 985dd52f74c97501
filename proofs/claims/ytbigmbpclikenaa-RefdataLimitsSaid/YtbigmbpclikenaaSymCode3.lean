/-
  Contracts: Code and Spread, of package symbol and of the document's own answer, for whatever product and months.
-/
import Derived.Test.YtbigmbpclikenaaSymCode2
namespace Go.Proofs.Ytbigmbpclikenaa
open Go.RowKit
set_option linter.unusedVariables false
set_option linter.unusedSimpArgs false

/-- What Code answers: its number, and its text. -/
def codeE (p : List UInt8) (m : Int) : Nat := bif prodB p then (if 0 ≤ m ∧ m ≤ 1199 then 0 else 1) else 12
def codeL (p : List UInt8) (m : Int) : List UInt8 := if codeE p m = 0 then p ++ tail m.toNat else []
theorem codeE_ok {p : List UInt8} {m : Nat} (hp : prodB p = true) (hm : m ≤ 1199) : codeE p m = 0 := by unfold codeE; rw [hp, cond_true, if_pos (by omega)]
theorem codeL_ok {p : List UInt8} {m : Nat} (hp : prodB p = true) (hm : m ≤ 1199) : codeL p m = p ++ tail m := by unfold codeL; rw [codeE_ok hp hm, if_pos rfl]; rfl
theorem codeE_bad {p : List UInt8} {m : Int} (hp : prodB p = false) : codeE p m = 12 := by unfold codeE; rw [hp]; rfl
theorem codeE_far {p : List UInt8} {m : Int} (hp : prodB p = true) (hm : ¬ (0 ≤ m ∧ m ≤ 1199)) : codeE p m = 1 := by unfold codeE; rw [hp, cond_true, if_neg hm]
theorem codeL_no {p : List UInt8} {m : Int} (h : codeE p m ≠ 0) : codeL p m = [] := by unfold codeL; rw [if_neg h]
theorem codeE_zero {p : List UInt8} {m : Int} (h : codeE p m = 0) : prodB p = true ∧ 0 ≤ m ∧ m ≤ 1199 := by
  cases hp : prodB p
  · rw [codeE_bad hp] at h; cases h
  · refine ⟨rfl, Decidable.byContradiction fun hn => ?_⟩
    rw [codeE_far hp hn] at h; cases h
theorem codeL_len (p : List UInt8) (m : Int) : (codeL p m).length ≤ 11 := by
  unfold codeL
  by_cases h : codeE p m = 0
  · rw [if_pos h, List.length_append, tail_len]
    have := (prodB_len (codeE_zero h).1).2
    omega
  · rw [if_neg h]; simp
theorem codeE_le (p : List UInt8) (m : Int) : codeE p m ≤ 12 := by
  unfold codeE; cases prodB p
  · exact Nat.le_refl _
  · show (if 0 ≤ m ∧ m ≤ 1199 then 0 else 1) ≤ 12
    split <;> omega

/-- What Spread answers. -/
def spreadE (p : List UInt8) (n f : Int) : Nat := if codeE p n ≠ 0 then codeE p n else if codeE p f ≠ 0 then codeE p f else if n < f then 0 else 1
def spreadL (p : List UInt8) (n f : Int) : List UInt8 := if spreadE p n f = 0 then codeL p n ++ 45 :: codeL p f else []
theorem spread_near {p : List UInt8} {n f : Int} (h : codeE p n ≠ 0) : spreadE p n f = codeE p n ∧ spreadL p n f = [] := by
  have e : spreadE p n f = codeE p n := by unfold spreadE; rw [if_pos h]
  exact ⟨e, by unfold spreadL; rw [e, if_neg h]⟩
theorem spread_far {p : List UInt8} {n f : Int} (h : codeE p n = 0) (h2 : codeE p f ≠ 0) : spreadE p n f = codeE p f ∧ spreadL p n f = [] := by
  have e : spreadE p n f = codeE p f := by unfold spreadE; rw [if_neg (by simp [h]), if_pos h2]
  exact ⟨e, by unfold spreadL; rw [e, if_neg h2]⟩
theorem spread_turned {p : List UInt8} {n f : Int} (h : codeE p n = 0) (h2 : codeE p f = 0) (h3 : ¬ n < f) : spreadE p n f = 1 ∧ spreadL p n f = [] := by
  have e : spreadE p n f = 1 := by unfold spreadE; rw [if_neg (by simp [h]), if_neg (by simp [h2]), if_neg h3]
  exact ⟨e, by unfold spreadL; rw [e]; rfl⟩
theorem spread_ok {p : List UInt8} {n f : Int} (h : codeE p n = 0) (h2 : codeE p f = 0) (h3 : n < f) : spreadE p n f = 0 ∧ spreadL p n f = codeL p n ++ 45 :: codeL p f := by
  have e : spreadE p n f = 0 := by unfold spreadE; rw [if_neg (by simp [h]), if_neg (by simp [h2]), if_pos h3]
  exact ⟨e, by unfold spreadL; rw [e]; rfl⟩
theorem spreadL_len (p : List UInt8) (n f : Int) : (spreadL p n f).length ≤ 23 := by
  unfold spreadL
  have := codeL_len p n
  have := codeL_len p f
  split
  · rw [List.length_append, List.length_cons]; omega
  · simp
theorem spreadE_le (p : List UInt8) (n f : Int) : spreadE p n f ≤ 12 := by
  unfold spreadE
  have := codeE_le p n
  have := codeE_le p f
  split
  · omega
  · split
    · omega
    · split <;> omega

set_option maxRecDepth 100000 in
theorem Code_bad (p : List UInt8) (m : Int) (w : World) (hp : prodB p = false) :
    Calls Try.prog 26 #[.string (str p), .int .i64 m] w fun e w' => e = .returned (.tuple #[.string (str []), .int .i64 12]) ∧ Below w.heap.size w w' := by
  have Hp := Lib.hid hp
  clear hp
  go_enter Try.func26, Try.ntmps26
  go_wp2_with fail
  refine (Product_any p _).mono ?_
  rintro e w1 ⟨rfl, b1⟩
  rw [Hp.out]
  have B1 := Lib.hid b1
  clear b1
  go_wp2_with fail
  go_ret2
  exact ⟨rfl, B1.out⟩
set_option maxRecDepth 100000 in
theorem Code_low (p : List UInt8) (m : Int) (w : World) (hp : prodB p = true) (hm : m < 0) :
    Calls Try.prog 26 #[.string (str p), .int .i64 m] w fun e w' => e = .returned (.tuple #[.string (str []), .int .i64 1]) ∧ Below w.heap.size w w' := by
  have Hp := Lib.hid hp
  clear hp
  go_enter Try.func26, Try.ntmps26
  go_wp2_with fail
  refine (Product_any p _).mono ?_
  rintro e w1 ⟨rfl, b1⟩
  rw [Hp.out]
  have B1 := Lib.hid b1
  clear b1
  go_wp2_with fail
  go_ret2
  exact ⟨rfl, B1.out⟩
set_option maxRecDepth 100000 in
theorem Code_high (p : List UInt8) (m : Int) (w : World) (hp : prodB p = true) (h0 : 0 ≤ m) (hm : 1199 < m) :
    Calls Try.prog 26 #[.string (str p), .int .i64 m] w fun e w' => e = .returned (.tuple #[.string (str []), .int .i64 1]) ∧ Below w.heap.size w w' := by
  have Hp := Lib.hid hp
  clear hp
  go_enter Try.func26, Try.ntmps26
  go_wp2_with fail
  refine (Product_any p _).mono ?_
  rintro e w1 ⟨rfl, b1⟩
  rw [Hp.out]
  have B1 := Lib.hid b1
  clear b1
  go_wp2_with fail
  go_ret2
  exact ⟨rfl, B1.out⟩
theorem Code_any (p : List UInt8) (m : Int) (w : World) :
    Calls Try.prog 26 #[.string (str p), .int .i64 m] w fun e w' => e = .returned (.tuple #[.string (str (codeL p m)), .int .i64 (codeE p m)]) ∧ Below w.heap.size w w' := by
  cases hp : prodB p
  · have e1 := codeE_bad (m := m) hp
    rw [codeL_no (p := p) (m := m) (by rw [e1]; decide), e1]
    exact Code_bad p m w hp
  · by_cases h0 : m < 0
    · have e1 := codeE_far (m := m) hp (by omega)
      rw [codeL_no (p := p) (m := m) (by rw [e1]; decide), e1]
      exact Code_low p m w hp h0
    · by_cases h1 : 1199 < m
      · have e1 := codeE_far (m := m) hp (by omega)
        rw [codeL_no (p := p) (m := m) (by rw [e1]; decide), e1]
        exact Code_high p m w hp (by omega) h1
      · obtain ⟨k, rfl⟩ : ∃ k : Nat, m = (k : Int) := ⟨m.toNat, by omega⟩
        rw [codeE_ok hp (by omega), codeL_ok hp (by omega)]
        exact Code_yes p k _ _ _ _ w hp (by omega) rfl rfl rfl rfl

set_option maxRecDepth 100000 in
theorem RefCode_bad (p : List UInt8) (m : Int) (w : World) (hs : p.length ≤ 140737488355328) (hp : prodB p = false) :
    Calls Try.prog 43 #[.string (str p), .int .i64 m] w fun e w' => e = .returned (.tuple #[.string (str []), .int .i64 12]) ∧ Below w.heap.size w w' := by
  have Hp := Lib.hid hp
  clear hp
  go_enter Try.func43, Try.ntmps43
  go_wp2_with fail
  refine (RefProduct_any p _ hs).mono ?_
  rintro e w1 ⟨rfl, b1⟩
  rw [Hp.out]
  have B1 := Lib.hid b1
  clear b1
  go_wp2_with fail
  go_ret2
  exact ⟨rfl, B1.out⟩
set_option maxRecDepth 100000 in
theorem RefCode_low (p : List UInt8) (m : Int) (w : World) (hs : p.length ≤ 140737488355328) (hp : prodB p = true) (hm : m < 0) :
    Calls Try.prog 43 #[.string (str p), .int .i64 m] w fun e w' => e = .returned (.tuple #[.string (str []), .int .i64 1]) ∧ Below w.heap.size w w' := by
  have Hp := Lib.hid hp
  clear hp
  go_enter Try.func43, Try.ntmps43
  go_wp2_with fail
  refine (RefProduct_any p _ hs).mono ?_
  rintro e w1 ⟨rfl, b1⟩
  rw [Hp.out]
  have B1 := Lib.hid b1
  clear b1
  go_wp2_with fail
  go_ret2
  exact ⟨rfl, B1.out⟩
set_option maxRecDepth 100000 in
theorem RefCode_high (p : List UInt8) (m : Int) (w : World) (hs : p.length ≤ 140737488355328) (hp : prodB p = true) (h0 : 0 ≤ m) (hm : 1199 < m) :
    Calls Try.prog 43 #[.string (str p), .int .i64 m] w fun e w' => e = .returned (.tuple #[.string (str []), .int .i64 1]) ∧ Below w.heap.size w w' := by
  have Hp := Lib.hid hp
  clear hp
  go_enter Try.func43, Try.ntmps43
  go_wp2_with fail
  refine (RefProduct_any p _ hs).mono ?_
  rintro e w1 ⟨rfl, b1⟩
  rw [Hp.out]
  have B1 := Lib.hid b1
  clear b1
  go_wp2_with fail
  go_ret2
  exact ⟨rfl, B1.out⟩
theorem RefCode_any (p : List UInt8) (m : Int) (w : World) (hs : p.length ≤ 140737488355328) :
    Calls Try.prog 43 #[.string (str p), .int .i64 m] w fun e w' => e = .returned (.tuple #[.string (str (codeL p m)), .int .i64 (codeE p m)]) ∧ Below w.heap.size w w' := by
  cases hp : prodB p
  · have e1 := codeE_bad (m := m) hp
    rw [codeL_no (p := p) (m := m) (by rw [e1]; decide), e1]
    exact RefCode_bad p m w hs hp
  · by_cases h0 : m < 0
    · have e1 := codeE_far (m := m) hp (by omega)
      rw [codeL_no (p := p) (m := m) (by rw [e1]; decide), e1]
      exact RefCode_low p m w hs hp h0
    · by_cases h1 : 1199 < m
      · have e1 := codeE_far (m := m) hp (by omega)
        rw [codeL_no (p := p) (m := m) (by rw [e1]; decide), e1]
        exact RefCode_high p m w hs hp (by omega) h1
      · obtain ⟨k, rfl⟩ : ∃ k : Nat, m = (k : Int) := ⟨m.toNat, by omega⟩
        rw [codeE_ok hp (by omega), codeL_ok hp (by omega)]
        exact RefCode_yes p k _ _ _ _ w hp (by omega) rfl rfl rfl rfl

/-- What Spread answers, of the codes. -/
theorem spread_ways (p : List UInt8) (n f : Int) : (codeE p n ≠ 0 ∧ spreadE p n f = codeE p n ∧ spreadL p n f = []) ∨ (codeE p n = 0 ∧ codeE p f ≠ 0 ∧ spreadE p n f = codeE p f ∧ spreadL p n f = []) ∨
    (codeE p n = 0 ∧ codeE p f = 0 ∧ f ≤ n ∧ spreadE p n f = 1 ∧ spreadL p n f = []) ∨ (codeE p n = 0 ∧ codeE p f = 0 ∧ n < f ∧ spreadE p n f = 0 ∧ spreadL p n f = codeL p n ++ 45 :: codeL p f) := by
  by_cases h1 : codeE p n = 0
  · by_cases h2 : codeE p f = 0
    · by_cases h3 : n < f
      · exact .inr (.inr (.inr ⟨h1, h2, h3, spread_ok h1 h2 h3⟩))
      · exact .inr (.inr (.inl ⟨h1, h2, by omega, spread_turned h1 h2 h3⟩))
    · exact .inr (.inl ⟨h1, h2, spread_far h1 h2⟩)
  · exact .inl ⟨h1, spread_near h1⟩

set_option maxRecDepth 100000 in
set_option maxHeartbeats 1000000 in
theorem Spread_go (p : List UInt8) (n f : Int) (c1 c2 L : List UInt8) (e1 e2 E : Nat) (w : World) (h1 : Hid (codeL p n = c1)) (h2 : Hid (codeE p n = e1)) (h3 : Hid (codeL p f = c2)) (h4 : Hid (codeE p f = e2))
    (l1 : c1.length ≤ 11) (l2 : c2.length ≤ 11)
    (H : (e1 ≠ 0 ∧ E = e1 ∧ L = []) ∨ (e1 = 0 ∧ e2 ≠ 0 ∧ E = e2 ∧ L = []) ∨ (e1 = 0 ∧ e2 = 0 ∧ f ≤ n ∧ E = 1 ∧ L = []) ∨ (e1 = 0 ∧ e2 = 0 ∧ n < f ∧ E = 0 ∧ L = c1 ++ 45 :: c2)) :
    Calls Try.prog 52 #[.string (str p), .int .i64 n, .int .i64 f] w fun e w' => e = .returned (.tuple #[.string (str L), .int .i64 E]) ∧ Below w.heap.size w w' := by
  have z1 : (str c1).size ≤ 11 := by rw [str_size]; exact l1
  have z2 : (str c2).size ≤ 11 := by rw [str_size]; exact l2
  rcases H with ⟨ha, rfl, rfl⟩ | ⟨rfl, ha, rfl, rfl⟩ | ⟨rfl, rfl, ha, rfl, rfl⟩ | ⟨rfl, rfl, ha, rfl, hL⟩
  · have hn : ((E : Int) != 0) = true := by simp; omega
    clear ha
    go_enter Try.func52, Try.ntmps52
    go_wp2_with fail
    refine (Code_any p n _).mono ?_
    rintro e w1 ⟨rfl, b1⟩
    rw [h1.out, h2.out]
    have B1 := Lib.hid b1
    clear b1
    go_wp2_with fail
    go_ret2
    exact ⟨rfl, B1.out⟩
  · have hn : ((E : Int) != 0) = true := by simp; omega
    clear ha
    go_enter Try.func52, Try.ntmps52
    go_wp2_with fail
    refine (Code_any p n _).mono ?_
    rintro e w1 ⟨rfl, b1⟩
    rw [h1.out, h2.out]
    have B1 := Lib.hid b1
    clear b1
    go_wp2_with fail
    refine (Code_any p f _).mono ?_
    rintro e w2 ⟨rfl, b2⟩
    rw [h3.out, h4.out]
    have B2 := Lib.hid (B1.out.trans (b2.mono B1.out.size))
    clear b2
    go_wp2_with fail
    go_ret2
    exact ⟨rfl, B2.out⟩
  · have hn : decide (f ≤ n) = true := decide_eq_true ha
    clear ha
    go_enter Try.func52, Try.ntmps52
    go_wp2_with fail
    refine (Code_any p n _).mono ?_
    rintro e w1 ⟨rfl, b1⟩
    rw [h1.out, h2.out]
    have B1 := Lib.hid b1
    clear b1
    go_wp2_with fail
    refine (Code_any p f _).mono ?_
    rintro e w2 ⟨rfl, b2⟩
    rw [h3.out, h4.out]
    have B2 := Lib.hid (B1.out.trans (b2.mono B1.out.size))
    clear b2
    go_wp2_with fail
    go_ret2
    exact ⟨rfl, B2.out⟩
  · have hn : decide (f ≤ n) = false := decide_eq_false (by omega)
    clear ha
    have Hj := Lib.hid (show str c1 ++ str [45] ++ str c2 = str L by rw [str_append, str_append, hL]; simp)
    have e45 : (⟨#[45]⟩ : ByteArray) = str [45] := rfl
    have z3 : (str [45]).size = 1 := rfl
    clear hL
    go_enter Try.func52, Try.ntmps52
    go_wp2_with fail
    refine (Code_any p n _).mono ?_
    rintro e w1 ⟨rfl, b1⟩
    rw [h1.out, h2.out]
    have B1 := Lib.hid b1
    clear b1
    go_wp2_with fail
    refine (Code_any p f _).mono ?_
    rintro e w2 ⟨rfl, b2⟩
    rw [h3.out, h4.out]
    have B2 := Lib.hid (B1.out.trans (b2.mono B1.out.size))
    clear b2
    go_wp2_with fail
    go_ret2
    refine ⟨?_, B2.out⟩
    rw [← Hj.out]
    rfl
theorem Spread_any (p : List UInt8) (n f : Int) (w : World) :
    Calls Try.prog 52 #[.string (str p), .int .i64 n, .int .i64 f] w fun e w' => e = .returned (.tuple #[.string (str (spreadL p n f)), .int .i64 (spreadE p n f)]) ∧ Below w.heap.size w w' :=
  Spread_go p n f _ _ _ _ _ _ w (Lib.hid rfl) (Lib.hid rfl) (Lib.hid rfl) (Lib.hid rfl) (codeL_len p n) (codeL_len p f) (spread_ways p n f)

set_option maxRecDepth 100000 in
set_option maxHeartbeats 1000000 in
theorem RefSpread_go (p : List UInt8) (n f : Int) (c1 c2 L : List UInt8) (e1 e2 E : Nat) (w : World) (hs : p.length ≤ 140737488355328) (h1 : Hid (codeL p n = c1)) (h2 : Hid (codeE p n = e1)) (h3 : Hid (codeL p f = c2)) (h4 : Hid (codeE p f = e2))
    (l1 : c1.length ≤ 11) (l2 : c2.length ≤ 11)
    (H : (e1 ≠ 0 ∧ E = e1 ∧ L = []) ∨ (e1 = 0 ∧ e2 ≠ 0 ∧ E = e2 ∧ L = []) ∨ (e1 = 0 ∧ e2 = 0 ∧ f ≤ n ∧ E = 1 ∧ L = []) ∨ (e1 = 0 ∧ e2 = 0 ∧ n < f ∧ E = 0 ∧ L = c1 ++ 45 :: c2)) :
    Calls Try.prog 44 #[.string (str p), .int .i64 n, .int .i64 f] w fun e w' => e = .returned (.tuple #[.string (str L), .int .i64 E]) ∧ Below w.heap.size w w' := by
  have z1 : (str c1).size ≤ 11 := by rw [str_size]; exact l1
  have z2 : (str c2).size ≤ 11 := by rw [str_size]; exact l2
  rcases H with ⟨ha, rfl, rfl⟩ | ⟨rfl, ha, rfl, rfl⟩ | ⟨rfl, rfl, ha, rfl, rfl⟩ | ⟨rfl, rfl, ha, rfl, hL⟩
  · have hn : ((E : Int) != 0) = true := by simp; omega
    clear ha
    go_enter Try.func44, Try.ntmps44
    go_wp2_with fail
    refine (RefCode_any p n _ hs).mono ?_
    rintro e w1 ⟨rfl, b1⟩
    rw [h1.out, h2.out]
    have B1 := Lib.hid b1
    clear b1
    go_wp2_with fail
    go_ret2
    exact ⟨rfl, B1.out⟩
  · have hn : ((E : Int) != 0) = true := by simp; omega
    clear ha
    go_enter Try.func44, Try.ntmps44
    go_wp2_with fail
    refine (RefCode_any p n _ hs).mono ?_
    rintro e w1 ⟨rfl, b1⟩
    rw [h1.out, h2.out]
    have B1 := Lib.hid b1
    clear b1
    go_wp2_with fail
    refine (RefCode_any p f _ hs).mono ?_
    rintro e w2 ⟨rfl, b2⟩
    rw [h3.out, h4.out]
    have B2 := Lib.hid (B1.out.trans (b2.mono B1.out.size))
    clear b2
    go_wp2_with fail
    go_ret2
    exact ⟨rfl, B2.out⟩
  · have hn : decide (f ≤ n) = true := decide_eq_true ha
    clear ha
    go_enter Try.func44, Try.ntmps44
    go_wp2_with fail
    refine (RefCode_any p n _ hs).mono ?_
    rintro e w1 ⟨rfl, b1⟩
    rw [h1.out, h2.out]
    have B1 := Lib.hid b1
    clear b1
    go_wp2_with fail
    refine (RefCode_any p f _ hs).mono ?_
    rintro e w2 ⟨rfl, b2⟩
    rw [h3.out, h4.out]
    have B2 := Lib.hid (B1.out.trans (b2.mono B1.out.size))
    clear b2
    go_wp2_with fail
    go_ret2
    exact ⟨rfl, B2.out⟩
  · have hn : decide (f ≤ n) = false := decide_eq_false (by omega)
    clear ha
    have Hj := Lib.hid (show str c1 ++ str [45] ++ str c2 = str L by rw [str_append, str_append, hL]; simp)
    have e45 : (⟨#[45]⟩ : ByteArray) = str [45] := rfl
    have z3 : (str [45]).size = 1 := rfl
    clear hL
    go_enter Try.func44, Try.ntmps44
    go_wp2_with fail
    refine (RefCode_any p n _ hs).mono ?_
    rintro e w1 ⟨rfl, b1⟩
    rw [h1.out, h2.out]
    have B1 := Lib.hid b1
    clear b1
    go_wp2_with fail
    refine (RefCode_any p f _ hs).mono ?_
    rintro e w2 ⟨rfl, b2⟩
    rw [h3.out, h4.out]
    have B2 := Lib.hid (B1.out.trans (b2.mono B1.out.size))
    clear b2
    go_wp2_with fail
    go_ret2
    refine ⟨?_, B2.out⟩
    rw [← Hj.out]
    rfl
theorem RefSpread_any (p : List UInt8) (n f : Int) (w : World) (hs : p.length ≤ 140737488355328) :
    Calls Try.prog 44 #[.string (str p), .int .i64 n, .int .i64 f] w fun e w' => e = .returned (.tuple #[.string (str (spreadL p n f)), .int .i64 (spreadE p n f)]) ∧ Below w.heap.size w w' :=
  RefSpread_go p n f _ _ _ _ _ _ w hs (Lib.hid rfl) (Lib.hid rfl) (Lib.hid rfl) (Lib.hid rfl) (codeL_len p n) (codeL_len p f) (spread_ways p n f)
end Go.Proofs.Ytbigmbpclikenaa
