/-
  Contracts: Byte, Long and Text, of the document's own answer: what is written behind some bytes.
-/
import Derived.Test.YtjhfgajhmenboaaDoorKeepBytes
import Derived.Lib.AppendStr
namespace Go.Proofs.YtjhfgajhmenboaaDoor
open Go.RowKit
set_option linter.unusedVariables false
set_option linter.unusedSimpArgs false

/-- The lowest byte of a number. -/
def byteOf (n : Int) : UInt8 := UInt8.ofNat (n % 256).toNat
theorem byteOf_nat (n : Int) : ((byteOf n).toNat : Int) = n % 256 := by
  have h1 := Int.emod_nonneg n (show (256 : Int) ≠ 0 by omega)
  have h2 := Int.emod_lt_of_pos n (show (0 : Int) < 256 by omega)
  unfold byteOf
  simp
  omega
theorem byteOf_small {n : Nat} (h : n < 256) : byteOf n = UInt8.ofNat n := by
  unfold byteOf; congr 1; omega
theorem hb_one (w : World) (x : UInt8) : HB (w.alloc (.cells #[.int .u8 x.toNat] 5)) (some ⟨w.heap.size, 0, none⟩) 1 [x] := by
  have := hb_lit w [x]
  simp only [List.map_cons, List.map_nil, bc] at this
  exact this
theorem rb_empty (w : World) : RB (w.alloc (.cells #[] 5)) w.heap.size (.slice (some ⟨w.heap.size, 0, none⟩) 0 0) [] := rb_lit w w.heap.size [] (Nat.le_refl _) (by simp)

set_option maxRecDepth 100000 in
set_option maxHeartbeats 1000000 in
theorem RefByte_any (A : Option Addr) (n cap : Nat) (l : List UInt8) (v : Int) (w : World) (hn : n ≤ 1000000000) (hA : A = none → cap = 0) (h : Hid (HB w A n l)) (v1 : -9223372036854775808 ≤ v) (v2 : v ≤ 9223372036854775807) :
    Calls Tryd.prog 29 #[.slice A n cap, .int .i64 v] w fun e w' => ∃ r, e = .returned r ∧ RB w' w.heap.size r (l ++ [byteOf v]) ∧ Below w.heap.size w w' := by
  obtain ⟨i0, hi0, hz0, hz1, hz2⟩ := info_parts info_u8
  have hl := Lib.hid h.out.1
  have R0 := Lib.hid (rb_empty w)
  have HA := Lib.hid (h.out.alloc (.cells #[] 5))
  have hv := byteOf_nat v
  obtain ⟨x, ex⟩ : ∃ x, byteOf v = x := ⟨_, rfl⟩
  rw [ex] at hv ⊢
  have hv2 := hv.symm
  clear hv ex
  go_enter Tryd.func29, Tryd.ntmps29
  go_wp2_with (at_builtin; refine wpList_onto_b (by rfl) (.tmp 5) (.tmp 6) 26 (by rfl) w.heap.size i0 Tryd.underlying26 hi0 hz0 hz1 hz2 _ _ (by rfl) R0.out A n cap l (by rfl) HA.out hA ?c1 ?c2 ?_)
  case c1 => simp; omega
  case c2 => simp
  intro r1 w1 h1 g1 _
  have b1 := Lib.hid (RB.below ((Below.refl _ w).alloc (Nat.le_refl _) _) R0.out g1)
  have h1 := Lib.hid h1
  clear g1
  have H1 := Lib.hid (h1.out.alloc (.cells #[.int .u8 x.toNat] 5))
  have S1 := Lib.hid (hb_one w1 x)
  have bz := b1.out.size
  go_wp2_with (at_builtin; refine wpList_onto_b (by rfl) (.tmp 7) (.tmp 10) 26 (by rfl) w.heap.size i0 Tryd.underlying26 hi0 hz0 hz1 hz2 _ _ (by rfl) H1.out _ 1 1 _ (by rfl) S1.out (fun e => by cases e) ?c3 ?c4 ?_)
  case c3 => rw [hl.out]; omega
  case c4 => simp; omega
  intro r2 w2 h2 g2 _
  have b2 := Lib.hid (RB.below (b1.out.alloc bz _) H1.out g2)
  have h2 := Lib.hid h2
  clear g2
  go_wp2_with fail
  go_ret
  exact ⟨r2, rfl, h2.out, b2.out⟩

theorem rb_of_own {w : World} {base : Nat} {v : Value} {l : List UInt8} {n : Nat} {cs : List Value} (hn : n = l.length) (hc : cs = l.map bc) (h : w.ownsRow base 5 1 v n cs) : RB w base v l := by
  subst hn; subst hc; exact h
end Go.Proofs.YtjhfgajhmenboaaDoor
