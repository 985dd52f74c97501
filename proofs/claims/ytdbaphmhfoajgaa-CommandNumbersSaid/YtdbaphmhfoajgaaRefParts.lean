/-
  Contracts: Byte, Long and Text, of the document's own answer: what is written behind some bytes.
-/
import Derived.Test.YtdbaphmhfoajgaaKeepBytes
import Derived.Lib.AppendStr
namespace Go.Proofs.Ytdbaphmhfoajgaa
open Go.RowKit
set_option linter.unusedVariables false
set_option linter.unusedSimpArgs false

/-- The lowest byte of a number. -/
def byteOf (n : Int) : UInt8 := UInt8.ofNat (n % 256).toNat
theorem byteOf_nat (n : Int) : ((byteOf n).toNat : Int) = n % 256 := by
  have h1 := Int.emod_nonneg n (show (256 : Int) ≠ 0 by omega)
  have h2 := Int.emod_lt_of_pos n (show (0 : Int) < 256 by omega)
  unfold byteOf
  simp
  omega
theorem byteOf_small {n : Nat} (h : n < 256) : byteOf n = UInt8.ofNat n := by
  unfold byteOf; congr 1; omega
theorem hb_one (w : World) (x : UInt8) : HB (w.alloc (.cells #[.int .u8 x.toNat] 5)) (some ⟨w.heap.size, 0, none⟩) 1 [x] := by
  have := hb_lit w [x]
  simp only [List.map_cons, List.map_nil, bc] at this
  exact this
theorem rb_empty (w : World) : RB (w.alloc (.cells #[] 5)) w.heap.size (.slice (some ⟨w.heap.size, 0, none⟩) 0 0) [] := rb_lit w w.heap.size [] (Nat.le_refl _) (by simp)

set_option maxRecDepth 100000 in
set_option maxHeartbeats 1000000 in
theorem RefByte_any (A : Option Addr) (n cap : Nat) (l : List UInt8) (v : Int) (w : World) (hn : n ≤ 1000000000) (hA : A = none → cap = 0) (h : Hid (HB w A n l)) (v1 : -9223372036854775808 ≤ v) (v2 : v ≤ 9223372036854775807) :
    Calls Try.prog 34 #[.slice A n cap, .int .i64 v] w fun e w' => ∃ r, e = .returned r ∧ RB w' w.heap.size r (l ++ [byteOf v]) ∧ Below w.heap.size w w' := by
  obtain ⟨i0, hi0, hz0, hz1, hz2⟩ := info_parts info_u8
  have hl := Lib.hid h.out.1
  have R0 := Lib.hid (rb_empty w)
  have HA := Lib.hid (h.out.alloc (.cells #[] 5))
  have hv := byteOf_nat v
  obtain ⟨x, ex⟩ : ∃ x, byteOf v = x := ⟨_, rfl⟩
  rw [ex] at hv ⊢
  have hv2 := hv.symm
  clear hv ex
  go_enter Try.func34, Try.ntmps34
  go_wp2_with (at_builtin; refine wpList_onto_b (by rfl) (.tmp 5) (.tmp 6) 27 (by rfl) w.heap.size i0 Try.underlying27 hi0 hz0 hz1 hz2 _ _ (by rfl) R0.out A n cap l (by rfl) HA.out hA ?c1 ?c2 ?_)
  case c1 => simp; omega
  case c2 => simp
  intro r1 w1 h1 g1 _
  have b1 := Lib.hid (RB.below ((Below.refl _ w).alloc (Nat.le_refl _) _) R0.out g1)
  have h1 := Lib.hid h1
  clear g1
  have H1 := Lib.hid (h1.out.alloc (.cells #[.int .u8 x.toNat] 5))
  have S1 := Lib.hid (hb_one w1 x)
  have bz := b1.out.size
  go_wp2_with (at_builtin; refine wpList_onto_b (by rfl) (.tmp 7) (.tmp 10) 27 (by rfl) w.heap.size i0 Try.underlying27 hi0 hz0 hz1 hz2 _ _ (by rfl) H1.out _ 1 1 _ (by rfl) S1.out (fun e => by cases e) ?c3 ?c4 ?_)
  case c3 => rw [hl.out]; omega
  case c4 => simp; omega
  intro r2 w2 h2 g2 _
  have b2 := Lib.hid (RB.below (b1.out.alloc bz _) H1.out g2)
  have h2 := Lib.hid h2
  clear g2
  go_wp2_with fail
  go_ret
  exact ⟨r2, rfl, h2.out, b2.out⟩

theorem rb_of_own {w : World} {base : Nat} {v : Value} {l : List UInt8} {n : Nat} {cs : List Value} (hn : n = l.length) (hc : cs = l.map bc) (h : w.ownsRow base 5 1 v n cs) : RB w base v l := by
  subst hn; subst hc; exact h
set_option maxRecDepth 100000 in
set_option maxHeartbeats 1000000 in
theorem RefText_go (A : Option Addr) (n cap : Nat) (l S s : List UInt8) (w : World) (hn : n ≤ 900000000) (hA : A = none → cap = 0) (h : Hid (HB w A n l)) (hs : Hid (S.take 255 = s)) (hs2 : s.length ≤ 255) (hcut : (255 < S.length ∧ (str S).extract 0 255 = str s) ∨ (S.length ≤ 255 ∧ S = s)) :
    Calls Try.prog 35 #[.slice A n cap, .string (str S)] w fun e w' => ∃ r, e = .returned r ∧ RB w' w.heap.size r (l ++ [UInt8.ofNat s.length] ++ s) ∧ Below w.heap.size w w' := by
  obtain ⟨i0, hi0, hz0, hz1, hz2⟩ := info_parts info_u8
  have hl := Lib.hid h.out.1
  have hsz : (str s).size = s.length := str_size s
  have hb := Lib.hid (byteOf_small (n := s.length) (by omega))
  rcases hcut with ⟨hlong, hx⟩ | ⟨hshort, rfl⟩
  · have hz : 255 < (str S).size := by rw [str_size]; exact hlong
    have hz' : (255 : Int) < ((str S).size : Int) := by omega
    have hz2' : 255 ≤ (str S).size := by omega
    have hx := Lib.hid hx
    go_enter Try.func35, Try.ntmps35
    go_wp2_with fail
    refine (RefByte_any A n cap l (s.length : Int) w (by omega) hA h (by omega) (by omega)).mono ?_
    rintro e w1 ⟨r1, rfl, h1, b1⟩
    rw [hb.out] at h1
    have h1 := Lib.hid h1
    have b1 := Lib.hid b1
    have bz := b1.out.size
    go_wp2_with (at_builtin; refine Classical.byContradiction fun hnot => ?_)
    refine hnot ?_
    (refine Lib.wpList_append_own_string _ (by rfl) (.tmp 13) (.tmp 14) 27 9 (by rfl) w.heap.size 5 i0 Try.underlying27 Try.underlying9 hi0 hz0 hz1 hz2 _ _ _ (by rfl) h1.out (str s) (by rfl) ?c1 ?c2 bz ?_)
    clear hnot
    case c1 => simp only [List.length_append, hl.out, hsz, List.length_cons, List.length_nil, maxLen]; omega
    case c2 => simp only [List.length_append, hl.out, hsz, List.length_cons, List.length_nil]; omega
    intro r2 w2 h2 g2 _
    have h2 := Lib.hid (rb_of_own (l := l ++ [UInt8.ofNat s.length] ++ s) (by simp [hsz]; omega) (by simp only [List.map_append]; rfl) h2)
    have b2 := Lib.hid (RB.below b1.out h1.out g2)
    clear g2
    go_wp2_with fail
    go_ret
    exact ⟨r2, rfl, h2.out, b2.out⟩
  · have hz : ¬ 255 < (str S).size := by rw [str_size]; omega
    have hz' : ¬ (255 : Int) < ((str S).size : Int) := by omega
    go_enter Try.func35, Try.ntmps35
    go_wp2_with fail
    refine (RefByte_any A n cap l (S.length : Int) w (by omega) hA h (by omega) (by omega)).mono ?_
    rintro e w1 ⟨r1, rfl, h1, b1⟩
    rw [hb.out] at h1
    have h1 := Lib.hid h1
    have b1 := Lib.hid b1
    have bz := b1.out.size
    go_wp2_with (at_builtin; refine Classical.byContradiction fun hnot => ?_)
    refine hnot ?_
    (refine Lib.wpList_append_own_string _ (by rfl) (.tmp 13) (.tmp 14) 27 9 (by rfl) w.heap.size 5 i0 Try.underlying27 Try.underlying9 hi0 hz0 hz1 hz2 _ _ _ (by rfl) h1.out (str S) (by rfl) ?c3 ?c4 bz ?_)
    clear hnot
    case c3 => simp only [List.length_append, hl.out, hsz, List.length_cons, List.length_nil, maxLen]; omega
    case c4 => simp only [List.length_append, hl.out, hsz, List.length_cons, List.length_nil]; omega
    intro r2 w2 h2 g2 _
    have h2 := Lib.hid (rb_of_own (l := l ++ [UInt8.ofNat S.length] ++ S) (by simp [hsz]; omega) (by simp only [List.map_append]; rfl) h2)
    have b2 := Lib.hid (RB.below b1.out h1.out g2)
    clear g2
    go_wp2_with fail
    go_ret
    exact ⟨r2, rfl, h2.out, b2.out⟩
theorem RefText_any (A : Option Addr) (n cap : Nat) (l S : List UInt8) (w : World) (hn : n ≤ 900000000) (hA : A = none → cap = 0) (h : Hid (HB w A n l)) :
    Calls Try.prog 35 #[.slice A n cap, .string (str S)] w fun e w' => ∃ r, e = .returned r ∧ RB w' w.heap.size r (l ++ [UInt8.ofNat (S.take 255).length] ++ S.take 255) ∧ Below w.heap.size w w' := by
  refine RefText_go A n cap l S _ w hn hA h (Lib.hid rfl) (by rw [List.length_take]; omega) ?_
  by_cases hs : 255 < S.length
  · refine .inl ⟨hs, ?_⟩
    rw [show (str S).extract 0 255 = str ((S.drop 0).take (255 - 0)) from ByteArray.extract_mk S 0 255]
    simp
  · exact .inr ⟨by omega, (List.take_of_length_le (by omega)).symm⟩
end Go.Proofs.Ytdbaphmhfoajgaa
