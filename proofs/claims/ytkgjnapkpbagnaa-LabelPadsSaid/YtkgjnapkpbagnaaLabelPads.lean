/-
  The walk of the law LabelPads.
-/
import Derived.Test.YtkgjnapkpbagnaaLabelTells
import Derived.Test.YtkgjnapkpbagnaaRuneFacts2
namespace Go.Proofs.Ytkgjnapkpbagnaa
open Go.RowKit
set_option linter.unusedVariables false
set_option linter.unusedSimpArgs false

/-- What the law asks of a text l of q bytes and a runes, a number of runes m: the cut is c (of e bytes and j runes), filled up it is p (of t bytes). -/
structure PadsFacts (l : List UInt8) (m a q e t j : Nat) (c p : List UInt8) : Prop where
  ll : l.length = q
  ea : (runes l).length = a
  ec : cutL l m = c
  cl : c.length = e
  cz : (str c).size = e
  ep : padL l m = p
  pl : p.length = t
  pz : (str p).size = t
  et : e ≤ t
  tq : t ≤ q + 1000
  ext : (str p).extract 0 e = str c
  cc : (runes c).length = j
  jm : j ≤ m
  tej : t = e + (m - j)
  full : padL l a = l
  same : padL p m = p
  none : padL l (-(m : Int) - 1) = []
  idx : ∀ i, e ≤ i → i < t → p[i]? = some 32
theorem pads_facts (l : List UInt8) (m : Nat) (m400 : m ≤ 400) (q3 : l.length ≤ 300) : PadsFacts l m (runes l).length l.length (cutL l m).length (padL l m).length (runes (cutL l m)).length (cutL l m) (padL l m) := by
  have hu : upTo (m : Int) = m := by unfold upTo; omega
  have hp : padL l m = padTo l m := by unfold padL; rw [hu]
  have ha : (runes l).length ≤ 300 := Nat.le_trans (runes_len l) q3
  have hcc : (runes (cutL l m)).length = min m (runes l).length := by rw [runes_cutL, List.length_take]; omega
  have hlen := pad_len_eq l m
  exact {
    ll := rfl
    ea := rfl
    ec := rfl
    cl := rfl
    cz := str_size _
    ep := rfl
    pl := rfl
    pz := str_size _
    et := by rw [hp]; omega
    tq := padL_len l m
    ext := by rw [ext_to, hp, pad_start]
    cc := rfl
    jm := by omega
    tej := by rw [hp]; omega
    full := by unfold padL upTo; rw [show min ((runes l).length : Int) 1000 = ((runes l).length : Int) by omega]; exact pad_full l
    same := by rw [hp]; unfold padL; rw [hu]; exact pad_same l m (by omega)
    none := by unfold padL; exact pad_none l _ (by unfold upTo; omega)
    idx := fun i h1 h2 => by rw [hp] at h2 ⊢; exact pad_blank l m i h1 h2 }

set_option maxRecDepth 100000 in
set_option maxHeartbeats 4000000 in
theorem LPads_p (s l : List UInt8) (n : Int) (m a q e t j : Nat) (c p : List UInt8) (w : World) (n1 : -9223372036854775808 ≤ n) (n2 : n ≤ 9223372036854775807) (hn : 0 ≤ n) (hm : Hid (n % 400 = (m : Int))) (m399 : m ≤ 399)
    (el : Hid (s.take 300 = l)) (q3 : q ≤ 300) (a3 : a ≤ 300) (R : Hid (PadsFacts l m a q e t j c p)) (e3 : e ≤ q) :
    Calls Try.prog 8 #[.string (str s), .int .i64 n] w fun e w' => e = .returned (.bool true) ∧ Below w.heap.size w w' := by
  have hcz := R.out.cz
  have hpz := R.out.pz
  have hx := R.out.ext
  have hl : l.length ≤ 300 := by rw [R.out.ll]; exact q3
  have hc : c.length ≤ 300 := by rw [R.out.cl]; omega
  have het := R.out.et
  have ht : t ≤ 1300 := by have := R.out.tq; omega
  have hp : p.length ≤ 1300 := by rw [R.out.pl]; exact ht
  have hjm := R.out.jm
  go_enter Try.func8, Try.ntmps8
  go_wp2_with fail
  refine (Few_any s _).mono ?_
  rintro e0 w0 ⟨rfl, rfl⟩
  rw [el.out]
  go_wp2_with fail
  rw [hm.out]
  refine (Cut_any l m _ (by omega) (by omega) (by omega)).mono ?_
  rintro e w1 ⟨rfl, b⟩
  rw [R.out.ec]
  have B1 := Lib.hid b
  clear b
  go_wp2_with fail
  refine (Pad_any l m _ (by omega) (by omega) (by omega)).mono ?_
  rintro e w2 ⟨rfl, b⟩
  rw [R.out.ep]
  have B2 := Lib.hid (B1.out.trans (b.mono B1.out.size))
  clear b
  go_wp2_with fail
  go_loop [7] (fun s => ∃ i : Nat, e ≤ i ∧ i ≤ t ∧ s = .int .i64 i) (fun s => t - (intOf s).toNat)
  case atStart => exact ⟨e, Nat.le_refl _, het, rfl⟩
  case round =>
    obtain ⟨i, hi1, hi2, rfl⟩ := hrel
    by_cases hi : i < t
    · have hidx := Lib.hid (R.out.idx i hi1 hi)
      have hget : ∀ h : i < (str p).size, (str p)[i] = 32 := fun h => by
        have h2 : i < p.length := h
        have h3 := hidx.out
        rw [List.getElem?_eq_getElem h2] at h3
        exact Option.some.inj h3
      go_wp2_with fail
      go_round
      case rel => exact ⟨i + 1, by omega, by omega, by go_num⟩
      case measure => simp [intOf]; omega
    · have het2 := Lib.hid R.out.tej
      go_wp2_with fail
      refine (Count_any c _ (by omega)).mono ?_
      rintro e w3 ⟨rfl, b⟩
      rw [R.out.cc]
      have B3 := Lib.hid (B2.out.trans (b.mono B2.out.size))
      clear b
      have hw1 : (t : Int) - (e : Int) = (m : Int) - (j : Int) := by have := het2.out; omega
      go_wp2_with fail
      refine (Count_any l _ (by omega)).mono ?_
      rintro e w4 ⟨rfl, b⟩
      rw [R.out.ea]
      have B4 := Lib.hid (B3.out.trans (b.mono B3.out.size))
      clear b
      go_wp2_with fail
      refine (Pad_any l a _ (by omega) (by omega) (by omega)).mono ?_
      rintro e w5 ⟨rfl, b⟩
      rw [R.out.full]
      have B5 := Lib.hid (B4.out.trans (b.mono B4.out.size))
      clear b
      go_wp2_with fail
      refine (Pad_any p m _ (by omega) (by omega) (by omega)).mono ?_
      rintro e w6 ⟨rfl, b⟩
      rw [R.out.same]
      have B6 := Lib.hid (B5.out.trans (b.mono B5.out.size))
      clear b
      go_wp2_with fail
      refine (Pad_any l (-(m : Int) - 1) _ (by omega) (by omega) (by omega)).mono ?_
      rintro e w7 ⟨rfl, b⟩
      rw [R.out.none]
      have B7 := Lib.hid (B6.out.trans (b.mono B6.out.size))
      clear b
      have hnil : str [] = { data := #[] } := rfl
      go_wp2_with fail
      refine (LKnown_any _).mono ?_
      rintro e w8 ⟨rfl, b⟩
      have B8 := Lib.hid (B7.out.trans (b.mono B7.out.size))
      clear b
      go_wp2_with fail
      go_ret
      exact ⟨rfl, B8.out⟩

set_option maxRecDepth 100000 in
set_option maxHeartbeats 4000000 in
theorem LPads_n (s l : List UInt8) (n : Int) (m a q e t j : Nat) (c p : List UInt8) (w : World) (n1 : -9223372036854775808 ≤ n) (n2 : n ≤ 9223372036854775807) (hn : n < 0) (hm : Hid (-(n + 1).tmod 400 = (m : Int))) (m399 : m ≤ 399)
    (el : Hid (s.take 300 = l)) (q3 : q ≤ 300) (a3 : a ≤ 300) (R : Hid (PadsFacts l m a q e t j c p)) (e3 : e ≤ q) :
    Calls Try.prog 8 #[.string (str s), .int .i64 n] w fun e w' => e = .returned (.bool true) ∧ Below w.heap.size w w' := by
  have hcz := R.out.cz
  have hpz := R.out.pz
  have hx := R.out.ext
  have hl : l.length ≤ 300 := by rw [R.out.ll]; exact q3
  have hc : c.length ≤ 300 := by rw [R.out.cl]; omega
  have het := R.out.et
  have ht : t ≤ 1300 := by have := R.out.tq; omega
  have hp : p.length ≤ 1300 := by rw [R.out.pl]; exact ht
  have hjm := R.out.jm
  go_enter Try.func8, Try.ntmps8
  go_wp2_with fail
  refine (Few_any s _).mono ?_
  rintro e0 w0 ⟨rfl, rfl⟩
  rw [el.out]
  go_wp2_with fail
  rw [hm.out]
  refine (Cut_any l m _ (by omega) (by omega) (by omega)).mono ?_
  rintro e w1 ⟨rfl, b⟩
  rw [R.out.ec]
  have B1 := Lib.hid b
  clear b
  go_wp2_with fail
  refine (Pad_any l m _ (by omega) (by omega) (by omega)).mono ?_
  rintro e w2 ⟨rfl, b⟩
  rw [R.out.ep]
  have B2 := Lib.hid (B1.out.trans (b.mono B1.out.size))
  clear b
  go_wp2_with fail
  go_loop [7] (fun s => ∃ i : Nat, e ≤ i ∧ i ≤ t ∧ s = .int .i64 i) (fun s => t - (intOf s).toNat)
  case atStart => exact ⟨e, Nat.le_refl _, het, rfl⟩
  case round =>
    obtain ⟨i, hi1, hi2, rfl⟩ := hrel
    by_cases hi : i < t
    · have hidx := Lib.hid (R.out.idx i hi1 hi)
      have hget : ∀ h : i < (str p).size, (str p)[i] = 32 := fun h => by
        have h2 : i < p.length := h
        have h3 := hidx.out
        rw [List.getElem?_eq_getElem h2] at h3
        exact Option.some.inj h3
      go_wp2_with fail
      go_round
      case rel => exact ⟨i + 1, by omega, by omega, by go_num⟩
      case measure => simp [intOf]; omega
    · have het2 := Lib.hid R.out.tej
      go_wp2_with fail
      refine (Count_any c _ (by omega)).mono ?_
      rintro e w3 ⟨rfl, b⟩
      rw [R.out.cc]
      have B3 := Lib.hid (B2.out.trans (b.mono B2.out.size))
      clear b
      have hw1 : (t : Int) - (e : Int) = (m : Int) - (j : Int) := by have := het2.out; omega
      go_wp2_with fail
      refine (Count_any l _ (by omega)).mono ?_
      rintro e w4 ⟨rfl, b⟩
      rw [R.out.ea]
      have B4 := Lib.hid (B3.out.trans (b.mono B3.out.size))
      clear b
      go_wp2_with fail
      refine (Pad_any l a _ (by omega) (by omega) (by omega)).mono ?_
      rintro e w5 ⟨rfl, b⟩
      rw [R.out.full]
      have B5 := Lib.hid (B4.out.trans (b.mono B4.out.size))
      clear b
      go_wp2_with fail
      refine (Pad_any p m _ (by omega) (by omega) (by omega)).mono ?_
      rintro e w6 ⟨rfl, b⟩
      rw [R.out.same]
      have B6 := Lib.hid (B5.out.trans (b.mono B5.out.size))
      clear b
      go_wp2_with fail
      refine (Pad_any l (-(m : Int) - 1) _ (by omega) (by omega) (by omega)).mono ?_
      rintro e w7 ⟨rfl, b⟩
      rw [R.out.none]
      have B7 := Lib.hid (B6.out.trans (b.mono B6.out.size))
      clear b
      have hnil : str [] = { data := #[] } := rfl
      go_wp2_with fail
      refine (LKnown_any _).mono ?_
      rintro e w8 ⟨rfl, b⟩
      have B8 := Lib.hid (B7.out.trans (b.mono B7.out.size))
      clear b
      go_wp2_with fail
      go_ret
      exact ⟨rfl, B8.out⟩

theorem LPads_walk (s : List UInt8) (n : Int) (w : World) (n1 : -9223372036854775808 ≤ n) (n2 : n ≤ 9223372036854775807) :
    Calls Try.prog 8 #[.string (str s), .int .i64 n] w fun e w' => e = .returned (.bool true) ∧ Below w.heap.size w w' := by
  have q3 := take_len s 300
  have a3 := Nat.le_trans (runes_len (s.take 300)) q3
  by_cases hn : n < 0
  · obtain ⟨m, hm⟩ : ∃ m : Nat, -(n + 1).tmod 400 = (m : Int) := ⟨(-(n + 1).tmod 400).toNat, by have := Int.neg_tmod (n + 1) 400; have := Int.tmod_nonneg 400 (show 0 ≤ -(n + 1) by omega); omega⟩
    have m399 : m ≤ 399 := by have := Int.neg_tmod (n + 1) 400; have := Int.tmod_lt_of_pos (-(n + 1)) (show (0 : Int) < 400 by omega); omega
    exact LPads_n s _ n m _ _ _ _ _ _ _ w n1 n2 hn (Lib.hid hm) m399 (Lib.hid rfl) q3 a3 (Lib.hid (pads_facts (s.take 300) m (by omega) q3)) (cutL_le (s.take 300) m)
  · obtain ⟨m, hm⟩ : ∃ m : Nat, n % 400 = (m : Int) := ⟨(n % 400).toNat, by omega⟩
    have m399 : m ≤ 399 := by omega
    exact LPads_p s _ n m _ _ _ _ _ _ _ w n1 n2 (by omega) (Lib.hid hm) m399 (Lib.hid rfl) q3 a3 (Lib.hid (pads_facts (s.take 300) m (by omega) q3)) (cutL_le (s.take 300) m)
end Go.Proofs.Ytkgjnapkpbagnaa
