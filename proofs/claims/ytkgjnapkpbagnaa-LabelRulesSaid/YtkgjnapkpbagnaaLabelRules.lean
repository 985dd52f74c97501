/-
  The walk of the law LabelRules (its facts, and the ways with no number below 0).
-/
import Derived.Test.YtkgjnapkpbagnaaLabelTells
import Derived.Test.YtkgjnapkpbagnaaRuneFacts2
namespace Go.Proofs.Ytkgjnapkpbagnaa
open Go.RowKit
set_option linter.unusedVariables false
set_option linter.unusedSimpArgs false

/-- What the law asks of a text l, a number of runes m: l's runes are a, its bytes q, the cut is c (of e bytes), filled up it is p, folded f, turned bk. -/
structure RulesFacts (l : List UInt8) (m a q e : Nat) (c p f bk : List UInt8) : Prop where
  ll : l.length = q
  lz : (str l).size = q
  ea : (runes l).length = a
  ec : cutL l m = c
  cl : c.length = e
  cz : (str c).size = e
  ext : (str l).extract 0 e = str c
  cc : (runes c).length = min m a
  k_less : a < m → min m a = a
  k_more : m ≤ a → min m a = m
  ep : padL l m = p
  pl : q ≤ 300 → p.length ≤ 1300
  pc : (runes p).length = m
  pk_less : a < m → cutL p a = c
  pk_more : m ≤ a → cutL p m = c
  ef : foldL l = f
  fl : f.length = q
  ff : foldL f = f
  fc : (runes f).length = a
  eb : backL l = bk
  bl : bk.length = q
  bz : (str bk).size = q
  bb : rightB l = true → backL bk = l
  a12 : rightB l = true → a ≤ 12
  rb : rightB l = true → rightB bk = true
  rf : rightB l = true → rightB f = true
theorem rules_facts (l : List UInt8) (m : Nat) (m49 : m ≤ 49) : RulesFacts l m (runes l).length l.length (cutL l m).length (cutL l m) (padL l m) (foldL l) (backL l) := by
  have hu : upTo (m : Int) = m := by unfold upTo; omega
  have hp : padL l m = padTo l m := by unfold padL; rw [hu]
  have hcc : (runes (cutL l m)).length = min m (runes l).length := by rw [runes_cutL, List.length_take]; omega
  exact {
    ll := rfl
    lz := str_size l
    ea := rfl
    ec := rfl
    cl := rfl
    cz := str_size _
    ext := by rw [ext_to, cutL_start]
    cc := hcc
    k_less := fun h => by omega
    k_more := fun h => by omega
    ep := rfl
    pl := fun h => by have := padL_len l m; omega
    pc := by have := pad_count l m (by omega); rw [hp]; omega
    pk_less := fun h => by rw [hp]; exact pad_cut l m _ (by rw [List.length_take]; omega)
    pk_more := fun h => by rw [hp]; exact pad_cut l m _ (by rw [List.length_take]; omega)
    ef := rfl
    fl := foldL_len l
    ff := foldL_twice l
    fc := foldL_count l
    eb := rfl
    bl := backL_len l
    bz := by rw [str_size, backL_len]
    bb := back_back
    a12 := fun h => (rightB_yes h).2.2
    rb := right_back
    rf := right_fold }

set_option maxRecDepth 100000 in
set_option maxHeartbeats 4000000 in
theorem LRules_plr (s l : List UInt8) (n : Int) (m a q e : Nat) (c p f bk : List UInt8) (w : World) (n1 : -9223372036854775808 ≤ n) (n2 : n ≤ 9223372036854775807) (hn : 0 ≤ n) (hm : Hid (n % 50 = (m : Int))) (m49 : m ≤ 49)
    (el : Hid (s.take 300 = l)) (q3 : q ≤ 300) (ha : a < m) (a3 : a ≤ 300) (R : Hid (RulesFacts l m a q e c p f bk)) (hr : Hid (rightB l = true)) (e3 : e ≤ q) :
    Calls Try.prog 5 #[.string (str s), .int .i64 n] w fun e w' => e = .returned (.bool true) ∧ Below w.heap.size w w' := by
  have hlz := R.out.lz
  have hbz := R.out.bz
  have hcz := R.out.cz
  have hx := R.out.ext
  have hl : l.length ≤ 300 := by rw [R.out.ll]; exact q3
  have hc : c.length ≤ 300 := by rw [R.out.cl]; omega
  have hf : f.length ≤ 300 := by rw [R.out.fl]; exact q3
  have hb : bk.length ≤ 300 := by rw [R.out.bl]; exact q3
  have hp : p.length ≤ 1300 := R.out.pl q3
  have hd1 : decide ((a : Int) < (m : Int)) = true := decide_eq_true (by omega)
  go_enter Try.func5, Try.ntmps5
  go_wp2_with fail
  refine (Few_any s _).mono ?_
  rintro e0 w0 ⟨rfl, rfl⟩
  rw [el.out]
  go_wp2_with fail
  rw [hm.out]
  refine (Cut_any l m _ (by omega) (by omega) (by omega)).mono ?_
  rintro e w1 ⟨rfl, b⟩
  rw [R.out.ec]
  have B1 := Lib.hid b
  clear b
  go_wp2_with fail
  refine (Count_any l _ (by omega)).mono ?_
  rintro e w2 ⟨rfl, b⟩
  rw [R.out.ea]
  have B2 := Lib.hid (B1.out.trans (b.mono B1.out.size))
  clear b
  go_wp2_with fail
  refine (Count_any c _ (by omega)).mono ?_
  rintro e w3 ⟨rfl, b⟩
  rw [R.out.cc, R.out.k_less ha]
  have B3 := Lib.hid (B2.out.trans (b.mono B2.out.size))
  clear b
  go_wp2_with fail
  refine (Pad_any l m _ (by omega) (by omega) (by omega)).mono ?_
  rintro e w4 ⟨rfl, b⟩
  rw [R.out.ep]
  have B4 := Lib.hid (B3.out.trans (b.mono B3.out.size))
  clear b
  go_wp2_with fail
  refine (Count_any p _ (by omega)).mono ?_
  rintro e w5 ⟨rfl, b⟩
  rw [R.out.pc]
  have B5 := Lib.hid (B4.out.trans (b.mono B4.out.size))
  clear b
  go_wp2_with fail
  refine (Pad_any l m _ (by omega) (by omega) (by omega)).mono ?_
  rintro e w6 ⟨rfl, b⟩
  rw [R.out.ep]
  have B6 := Lib.hid (B5.out.trans (b.mono B5.out.size))
  clear b
  go_wp2_with fail
  refine (Cut_any p a _ (by omega) (by omega) (by omega)).mono ?_
  rintro e w7 ⟨rfl, b⟩
  rw [R.out.pk_less ha]
  have B7 := Lib.hid (B6.out.trans (b.mono B6.out.size))
  clear b
  go_wp2_with fail
  refine (LFold_any l _ (by omega)).mono ?_
  rintro e w8 ⟨rfl, b⟩
  rw [R.out.ef]
  have B8 := Lib.hid (B7.out.trans (b.mono B7.out.size))
  clear b
  go_wp2_with fail
  refine (LFold_any f _ (by omega)).mono ?_
  rintro e w9 ⟨rfl, b⟩
  rw [R.out.ff]
  have B9 := Lib.hid (B8.out.trans (b.mono B8.out.size))
  clear b
  go_wp2_with fail
  refine (LFold_any l _ (by omega)).mono ?_
  rintro e w10 ⟨rfl, b⟩
  rw [R.out.ef]
  have B10 := Lib.hid (B9.out.trans (b.mono B9.out.size))
  clear b
  go_wp2_with fail
  refine (LFold_any l _ (by omega)).mono ?_
  rintro e w11 ⟨rfl, b⟩
  rw [R.out.ef]
  have B11 := Lib.hid (B10.out.trans (b.mono B10.out.size))
  clear b
  go_wp2_with fail
  refine (Count_any f _ (by omega)).mono ?_
  rintro e w12 ⟨rfl, b⟩
  rw [R.out.fc]
  have B12 := Lib.hid (B11.out.trans (b.mono B11.out.size))
  clear b
  go_wp2_with fail
  refine (Back_any l _ (by omega)).mono ?_
  rintro e w13 ⟨rfl, b⟩
  rw [R.out.eb]
  have B13 := Lib.hid (B12.out.trans (b.mono B12.out.size))
  clear b
  go_wp2_with fail
  refine (Right_any l _).mono ?_
  rintro e w14 ⟨rfl, b⟩
  rw [hr.out]
  have B14 := Lib.hid (B13.out.trans (b.mono B13.out.size))
  clear b
  go_wp2_with fail
  refine (Back_any l _ (by omega)).mono ?_
  rintro e w15 ⟨rfl, b⟩
  rw [R.out.eb]
  have B15 := Lib.hid (B14.out.trans (b.mono B14.out.size))
  clear b
  go_wp2_with fail
  refine (Back_any bk _ (by omega)).mono ?_
  rintro e w16 ⟨rfl, b⟩
  rw [R.out.bb hr.out]
  have B16 := Lib.hid (B15.out.trans (b.mono B15.out.size))
  clear b
  have a12 : a ≤ 12 := R.out.a12 hr.out
  go_wp2_with fail
  refine (Back_any l _ (by omega)).mono ?_
  rintro e w17 ⟨rfl, b⟩
  rw [R.out.eb]
  have B17 := Lib.hid (B16.out.trans (b.mono B16.out.size))
  clear b
  go_wp2_with fail
  refine (Right_any bk _).mono ?_
  rintro e w18 ⟨rfl, b⟩
  rw [R.out.rb hr.out]
  have B18 := Lib.hid (B17.out.trans (b.mono B17.out.size))
  clear b
  go_wp2_with fail
  refine (LFold_any l _ (by omega)).mono ?_
  rintro e w19 ⟨rfl, b⟩
  rw [R.out.ef]
  have B19 := Lib.hid (B18.out.trans (b.mono B18.out.size))
  clear b
  go_wp2_with fail
  refine (Right_any f _).mono ?_
  rintro e w20 ⟨rfl, b⟩
  rw [R.out.rf hr.out]
  have B20 := Lib.hid (B19.out.trans (b.mono B19.out.size))
  clear b
  go_wp2_with fail
  refine (LKnown_any _).mono ?_
  rintro e w21 ⟨rfl, b⟩
  have B21 := Lib.hid (B20.out.trans (b.mono B20.out.size))
  clear b
  go_wp2_with fail
  go_ret
  exact ⟨rfl, B21.out⟩

set_option maxRecDepth 100000 in
set_option maxHeartbeats 4000000 in
theorem LRules_plw (s l : List UInt8) (n : Int) (m a q e : Nat) (c p f bk : List UInt8) (w : World) (n1 : -9223372036854775808 ≤ n) (n2 : n ≤ 9223372036854775807) (hn : 0 ≤ n) (hm : Hid (n % 50 = (m : Int))) (m49 : m ≤ 49)
    (el : Hid (s.take 300 = l)) (q3 : q ≤ 300) (ha : a < m) (a3 : a ≤ 300) (R : Hid (RulesFacts l m a q e c p f bk)) (hr : Hid (rightB l = false)) (e3 : e ≤ q) :
    Calls Try.prog 5 #[.string (str s), .int .i64 n] w fun e w' => e = .returned (.bool true) ∧ Below w.heap.size w w' := by
  have hlz := R.out.lz
  have hbz := R.out.bz
  have hcz := R.out.cz
  have hx := R.out.ext
  have hl : l.length ≤ 300 := by rw [R.out.ll]; exact q3
  have hc : c.length ≤ 300 := by rw [R.out.cl]; omega
  have hf : f.length ≤ 300 := by rw [R.out.fl]; exact q3
  have hb : bk.length ≤ 300 := by rw [R.out.bl]; exact q3
  have hp : p.length ≤ 1300 := R.out.pl q3
  have hd1 : decide ((a : Int) < (m : Int)) = true := decide_eq_true (by omega)
  go_enter Try.func5, Try.ntmps5
  go_wp2_with fail
  refine (Few_any s _).mono ?_
  rintro e0 w0 ⟨rfl, rfl⟩
  rw [el.out]
  go_wp2_with fail
  rw [hm.out]
  refine (Cut_any l m _ (by omega) (by omega) (by omega)).mono ?_
  rintro e w1 ⟨rfl, b⟩
  rw [R.out.ec]
  have B1 := Lib.hid b
  clear b
  go_wp2_with fail
  refine (Count_any l _ (by omega)).mono ?_
  rintro e w2 ⟨rfl, b⟩
  rw [R.out.ea]
  have B2 := Lib.hid (B1.out.trans (b.mono B1.out.size))
  clear b
  go_wp2_with fail
  refine (Count_any c _ (by omega)).mono ?_
  rintro e w3 ⟨rfl, b⟩
  rw [R.out.cc, R.out.k_less ha]
  have B3 := Lib.hid (B2.out.trans (b.mono B2.out.size))
  clear b
  go_wp2_with fail
  refine (Pad_any l m _ (by omega) (by omega) (by omega)).mono ?_
  rintro e w4 ⟨rfl, b⟩
  rw [R.out.ep]
  have B4 := Lib.hid (B3.out.trans (b.mono B3.out.size))
  clear b
  go_wp2_with fail
  refine (Count_any p _ (by omega)).mono ?_
  rintro e w5 ⟨rfl, b⟩
  rw [R.out.pc]
  have B5 := Lib.hid (B4.out.trans (b.mono B4.out.size))
  clear b
  go_wp2_with fail
  refine (Pad_any l m _ (by omega) (by omega) (by omega)).mono ?_
  rintro e w6 ⟨rfl, b⟩
  rw [R.out.ep]
  have B6 := Lib.hid (B5.out.trans (b.mono B5.out.size))
  clear b
  go_wp2_with fail
  refine (Cut_any p a _ (by omega) (by omega) (by omega)).mono ?_
  rintro e w7 ⟨rfl, b⟩
  rw [R.out.pk_less ha]
  have B7 := Lib.hid (B6.out.trans (b.mono B6.out.size))
  clear b
  go_wp2_with fail
  refine (LFold_any l _ (by omega)).mono ?_
  rintro e w8 ⟨rfl, b⟩
  rw [R.out.ef]
  have B8 := Lib.hid (B7.out.trans (b.mono B7.out.size))
  clear b
  go_wp2_with fail
  refine (LFold_any f _ (by omega)).mono ?_
  rintro e w9 ⟨rfl, b⟩
  rw [R.out.ff]
  have B9 := Lib.hid (B8.out.trans (b.mono B8.out.size))
  clear b
  go_wp2_with fail
  refine (LFold_any l _ (by omega)).mono ?_
  rintro e w10 ⟨rfl, b⟩
  rw [R.out.ef]
  have B10 := Lib.hid (B9.out.trans (b.mono B9.out.size))
  clear b
  go_wp2_with fail
  refine (LFold_any l _ (by omega)).mono ?_
  rintro e w11 ⟨rfl, b⟩
  rw [R.out.ef]
  have B11 := Lib.hid (B10.out.trans (b.mono B10.out.size))
  clear b
  go_wp2_with fail
  refine (Count_any f _ (by omega)).mono ?_
  rintro e w12 ⟨rfl, b⟩
  rw [R.out.fc]
  have B12 := Lib.hid (B11.out.trans (b.mono B11.out.size))
  clear b
  go_wp2_with fail
  refine (Back_any l _ (by omega)).mono ?_
  rintro e w13 ⟨rfl, b⟩
  rw [R.out.eb]
  have B13 := Lib.hid (B12.out.trans (b.mono B12.out.size))
  clear b
  go_wp2_with fail
  refine (Right_any l _).mono ?_
  rintro e w14 ⟨rfl, b⟩
  rw [hr.out]
  have B14 := Lib.hid (B13.out.trans (b.mono B13.out.size))
  clear b
  go_wp2_with fail
  refine (LKnown_any _).mono ?_
  rintro e w15 ⟨rfl, b⟩
  have B15 := Lib.hid (B14.out.trans (b.mono B14.out.size))
  clear b
  go_wp2_with fail
  go_ret
  exact ⟨rfl, B15.out⟩

set_option maxRecDepth 100000 in
set_option maxHeartbeats 4000000 in
theorem LRules_pmr (s l : List UInt8) (n : Int) (m a q e : Nat) (c p f bk : List UInt8) (w : World) (n1 : -9223372036854775808 ≤ n) (n2 : n ≤ 9223372036854775807) (hn : 0 ≤ n) (hm : Hid (n % 50 = (m : Int))) (m49 : m ≤ 49)
    (el : Hid (s.take 300 = l)) (q3 : q ≤ 300) (ha : m ≤ a) (a3 : a ≤ 300) (R : Hid (RulesFacts l m a q e c p f bk)) (hr : Hid (rightB l = true)) (e3 : e ≤ q) :
    Calls Try.prog 5 #[.string (str s), .int .i64 n] w fun e w' => e = .returned (.bool true) ∧ Below w.heap.size w w' := by
  have hlz := R.out.lz
  have hbz := R.out.bz
  have hcz := R.out.cz
  have hx := R.out.ext
  have hl : l.length ≤ 300 := by rw [R.out.ll]; exact q3
  have hc : c.length ≤ 300 := by rw [R.out.cl]; omega
  have hf : f.length ≤ 300 := by rw [R.out.fl]; exact q3
  have hb : bk.length ≤ 300 := by rw [R.out.bl]; exact q3
  have hp : p.length ≤ 1300 := R.out.pl q3
  have hd1 : decide ((a : Int) < (m : Int)) = false := decide_eq_false (by omega)
  go_enter Try.func5, Try.ntmps5
  go_wp2_with fail
  refine (Few_any s _).mono ?_
  rintro e0 w0 ⟨rfl, rfl⟩
  rw [el.out]
  go_wp2_with fail
  rw [hm.out]
  refine (Cut_any l m _ (by omega) (by omega) (by omega)).mono ?_
  rintro e w1 ⟨rfl, b⟩
  rw [R.out.ec]
  have B1 := Lib.hid b
  clear b
  go_wp2_with fail
  refine (Count_any l _ (by omega)).mono ?_
  rintro e w2 ⟨rfl, b⟩
  rw [R.out.ea]
  have B2 := Lib.hid (B1.out.trans (b.mono B1.out.size))
  clear b
  go_wp2_with fail
  refine (Count_any c _ (by omega)).mono ?_
  rintro e w3 ⟨rfl, b⟩
  rw [R.out.cc, R.out.k_more ha]
  have B3 := Lib.hid (B2.out.trans (b.mono B2.out.size))
  clear b
  go_wp2_with fail
  refine (Pad_any l m _ (by omega) (by omega) (by omega)).mono ?_
  rintro e w4 ⟨rfl, b⟩
  rw [R.out.ep]
  have B4 := Lib.hid (B3.out.trans (b.mono B3.out.size))
  clear b
  go_wp2_with fail
  refine (Count_any p _ (by omega)).mono ?_
  rintro e w5 ⟨rfl, b⟩
  rw [R.out.pc]
  have B5 := Lib.hid (B4.out.trans (b.mono B4.out.size))
  clear b
  go_wp2_with fail
  refine (Pad_any l m _ (by omega) (by omega) (by omega)).mono ?_
  rintro e w6 ⟨rfl, b⟩
  rw [R.out.ep]
  have B6 := Lib.hid (B5.out.trans (b.mono B5.out.size))
  clear b
  go_wp2_with fail
  refine (Cut_any p m _ (by omega) (by omega) (by omega)).mono ?_
  rintro e w7 ⟨rfl, b⟩
  rw [R.out.pk_more ha]
  have B7 := Lib.hid (B6.out.trans (b.mono B6.out.size))
  clear b
  go_wp2_with fail
  refine (LFold_any l _ (by omega)).mono ?_
  rintro e w8 ⟨rfl, b⟩
  rw [R.out.ef]
  have B8 := Lib.hid (B7.out.trans (b.mono B7.out.size))
  clear b
  go_wp2_with fail
  refine (LFold_any f _ (by omega)).mono ?_
  rintro e w9 ⟨rfl, b⟩
  rw [R.out.ff]
  have B9 := Lib.hid (B8.out.trans (b.mono B8.out.size))
  clear b
  go_wp2_with fail
  refine (LFold_any l _ (by omega)).mono ?_
  rintro e w10 ⟨rfl, b⟩
  rw [R.out.ef]
  have B10 := Lib.hid (B9.out.trans (b.mono B9.out.size))
  clear b
  go_wp2_with fail
  refine (LFold_any l _ (by omega)).mono ?_
  rintro e w11 ⟨rfl, b⟩
  rw [R.out.ef]
  have B11 := Lib.hid (B10.out.trans (b.mono B10.out.size))
  clear b
  go_wp2_with fail
  refine (Count_any f _ (by omega)).mono ?_
  rintro e w12 ⟨rfl, b⟩
  rw [R.out.fc]
  have B12 := Lib.hid (B11.out.trans (b.mono B11.out.size))
  clear b
  go_wp2_with fail
  refine (Back_any l _ (by omega)).mono ?_
  rintro e w13 ⟨rfl, b⟩
  rw [R.out.eb]
  have B13 := Lib.hid (B12.out.trans (b.mono B12.out.size))
  clear b
  go_wp2_with fail
  refine (Right_any l _).mono ?_
  rintro e w14 ⟨rfl, b⟩
  rw [hr.out]
  have B14 := Lib.hid (B13.out.trans (b.mono B13.out.size))
  clear b
  go_wp2_with fail
  refine (Back_any l _ (by omega)).mono ?_
  rintro e w15 ⟨rfl, b⟩
  rw [R.out.eb]
  have B15 := Lib.hid (B14.out.trans (b.mono B14.out.size))
  clear b
  go_wp2_with fail
  refine (Back_any bk _ (by omega)).mono ?_
  rintro e w16 ⟨rfl, b⟩
  rw [R.out.bb hr.out]
  have B16 := Lib.hid (B15.out.trans (b.mono B15.out.size))
  clear b
  have a12 : a ≤ 12 := R.out.a12 hr.out
  go_wp2_with fail
  refine (Back_any l _ (by omega)).mono ?_
  rintro e w17 ⟨rfl, b⟩
  rw [R.out.eb]
  have B17 := Lib.hid (B16.out.trans (b.mono B16.out.size))
  clear b
  go_wp2_with fail
  refine (Right_any bk _).mono ?_
  rintro e w18 ⟨rfl, b⟩
  rw [R.out.rb hr.out]
  have B18 := Lib.hid (B17.out.trans (b.mono B17.out.size))
  clear b
  go_wp2_with fail
  refine (LFold_any l _ (by omega)).mono ?_
  rintro e w19 ⟨rfl, b⟩
  rw [R.out.ef]
  have B19 := Lib.hid (B18.out.trans (b.mono B18.out.size))
  clear b
  go_wp2_with fail
  refine (Right_any f _).mono ?_
  rintro e w20 ⟨rfl, b⟩
  rw [R.out.rf hr.out]
  have B20 := Lib.hid (B19.out.trans (b.mono B19.out.size))
  clear b
  go_wp2_with fail
  refine (LKnown_any _).mono ?_
  rintro e w21 ⟨rfl, b⟩
  have B21 := Lib.hid (B20.out.trans (b.mono B20.out.size))
  clear b
  go_wp2_with fail
  go_ret
  exact ⟨rfl, B21.out⟩

set_option maxRecDepth 100000 in
set_option maxHeartbeats 4000000 in
theorem LRules_pmw (s l : List UInt8) (n : Int) (m a q e : Nat) (c p f bk : List UInt8) (w : World) (n1 : -9223372036854775808 ≤ n) (n2 : n ≤ 9223372036854775807) (hn : 0 ≤ n) (hm : Hid (n % 50 = (m : Int))) (m49 : m ≤ 49)
    (el : Hid (s.take 300 = l)) (q3 : q ≤ 300) (ha : m ≤ a) (a3 : a ≤ 300) (R : Hid (RulesFacts l m a q e c p f bk)) (hr : Hid (rightB l = false)) (e3 : e ≤ q) :
    Calls Try.prog 5 #[.string (str s), .int .i64 n] w fun e w' => e = .returned (.bool true) ∧ Below w.heap.size w w' := by
  have hlz := R.out.lz
  have hbz := R.out.bz
  have hcz := R.out.cz
  have hx := R.out.ext
  have hl : l.length ≤ 300 := by rw [R.out.ll]; exact q3
  have hc : c.length ≤ 300 := by rw [R.out.cl]; omega
  have hf : f.length ≤ 300 := by rw [R.out.fl]; exact q3
  have hb : bk.length ≤ 300 := by rw [R.out.bl]; exact q3
  have hp : p.length ≤ 1300 := R.out.pl q3
  have hd1 : decide ((a : Int) < (m : Int)) = false := decide_eq_false (by omega)
  go_enter Try.func5, Try.ntmps5
  go_wp2_with fail
  refine (Few_any s _).mono ?_
  rintro e0 w0 ⟨rfl, rfl⟩
  rw [el.out]
  go_wp2_with fail
  rw [hm.out]
  refine (Cut_any l m _ (by omega) (by omega) (by omega)).mono ?_
  rintro e w1 ⟨rfl, b⟩
  rw [R.out.ec]
  have B1 := Lib.hid b
  clear b
  go_wp2_with fail
  refine (Count_any l _ (by omega)).mono ?_
  rintro e w2 ⟨rfl, b⟩
  rw [R.out.ea]
  have B2 := Lib.hid (B1.out.trans (b.mono B1.out.size))
  clear b
  go_wp2_with fail
  refine (Count_any c _ (by omega)).mono ?_
  rintro e w3 ⟨rfl, b⟩
  rw [R.out.cc, R.out.k_more ha]
  have B3 := Lib.hid (B2.out.trans (b.mono B2.out.size))
  clear b
  go_wp2_with fail
  refine (Pad_any l m _ (by omega) (by omega) (by omega)).mono ?_
  rintro e w4 ⟨rfl, b⟩
  rw [R.out.ep]
  have B4 := Lib.hid (B3.out.trans (b.mono B3.out.size))
  clear b
  go_wp2_with fail
  refine (Count_any p _ (by omega)).mono ?_
  rintro e w5 ⟨rfl, b⟩
  rw [R.out.pc]
  have B5 := Lib.hid (B4.out.trans (b.mono B4.out.size))
  clear b
  go_wp2_with fail
  refine (Pad_any l m _ (by omega) (by omega) (by omega)).mono ?_
  rintro e w6 ⟨rfl, b⟩
  rw [R.out.ep]
  have B6 := Lib.hid (B5.out.trans (b.mono B5.out.size))
  clear b
  go_wp2_with fail
  refine (Cut_any p m _ (by omega) (by omega) (by omega)).mono ?_
  rintro e w7 ⟨rfl, b⟩
  rw [R.out.pk_more ha]
  have B7 := Lib.hid (B6.out.trans (b.mono B6.out.size))
  clear b
  go_wp2_with fail
  refine (LFold_any l _ (by omega)).mono ?_
  rintro e w8 ⟨rfl, b⟩
  rw [R.out.ef]
  have B8 := Lib.hid (B7.out.trans (b.mono B7.out.size))
  clear b
  go_wp2_with fail
  refine (LFold_any f _ (by omega)).mono ?_
  rintro e w9 ⟨rfl, b⟩
  rw [R.out.ff]
  have B9 := Lib.hid (B8.out.trans (b.mono B8.out.size))
  clear b
  go_wp2_with fail
  refine (LFold_any l _ (by omega)).mono ?_
  rintro e w10 ⟨rfl, b⟩
  rw [R.out.ef]
  have B10 := Lib.hid (B9.out.trans (b.mono B9.out.size))
  clear b
  go_wp2_with fail
  refine (LFold_any l _ (by omega)).mono ?_
  rintro e w11 ⟨rfl, b⟩
  rw [R.out.ef]
  have B11 := Lib.hid (B10.out.trans (b.mono B10.out.size))
  clear b
  go_wp2_with fail
  refine (Count_any f _ (by omega)).mono ?_
  rintro e w12 ⟨rfl, b⟩
  rw [R.out.fc]
  have B12 := Lib.hid (B11.out.trans (b.mono B11.out.size))
  clear b
  go_wp2_with fail
  refine (Back_any l _ (by omega)).mono ?_
  rintro e w13 ⟨rfl, b⟩
  rw [R.out.eb]
  have B13 := Lib.hid (B12.out.trans (b.mono B12.out.size))
  clear b
  go_wp2_with fail
  refine (Right_any l _).mono ?_
  rintro e w14 ⟨rfl, b⟩
  rw [hr.out]
  have B14 := Lib.hid (B13.out.trans (b.mono B13.out.size))
  clear b
  go_wp2_with fail
  refine (LKnown_any _).mono ?_
  rintro e w15 ⟨rfl, b⟩
  have B15 := Lib.hid (B14.out.trans (b.mono B14.out.size))
  clear b
  go_wp2_with fail
  go_ret
  exact ⟨rfl, B15.out⟩
end Go.Proofs.Ytkgjnapkpbagnaa
