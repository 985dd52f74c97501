/-
  Contract: Frame, of the document's own answer.
-/
import Derived.Test.YtjhfgajhmenboaaDoorRefCrc
namespace Go.Proofs.YtjhfgajhmenboaaDoor
open Go.RowKit
set_option linter.unusedVariables false
set_option linter.unusedSimpArgs false

/-- A frame: what it has, between its head and its sum. -/
def frameL (l : List UInt8) : List UInt8 := [UInt8.ofNat l.length, UInt8.ofNat (255 - l.length)] ++ l ++ crcBytes (crcL l)
theorem frameL_len (l : List UInt8) : (frameL l).length = l.length + 6 := by unfold frameL crcBytes; simp
theorem u8_nat {k : Nat} (h : k < 256) : (UInt8.ofNat k).toNat = k := by simp; omega
theorem rb_two (w : World) (x y : Nat) (hx : x < 256) (hy : y < 256) : RB (w.alloc (.cells #[.int .u8 (x : Int), .int .u8 (y : Int)] 5)) w.heap.size (.slice (some ⟨w.heap.size, 0, none⟩) 2 2) [UInt8.ofNat x, UInt8.ofNat y] := by
  have := rb_lit w w.heap.size [UInt8.ofNat x, UInt8.ofNat y] (Nat.le_refl _) (by simp)
  simp only [List.map_cons, List.map_nil, bc, u8_nat hx, u8_nat hy] at this
  exact this

theorem hb_sum (w : World) (c : Nat) (hc : c < 4294967296) :
    HB (w.alloc (.cells #[.int .u8 ((c : Int) % 256), .int .u8 ((c : Int) / 256 % 256), .int .u8 ((c : Int) / 65536 % 256), .int .u8 ((c : Int) / 16777216)] 5)) (some ⟨w.heap.size, 0, none⟩) 4 (crcBytes c) := by
  have := hb_lit w (crcBytes c)
  simp only [crcBytes, List.map_cons, List.map_nil, bc, byte_nat] at this
  rw [show ((c / 16777216 % 256 : Nat) : Int) = (c : Int) / 16777216 by omega] at this
  exact this
set_option maxRecDepth 100000 in
set_option maxHeartbeats 1000000 in
theorem RefFrame_long (A : Option Addr) (n cap : Nat) (w : World) (hn : n ≤ 140737488355328) (hl : 255 < n) :
    Calls Tryd.prog 35 #[.slice A n cap] w fun e w' => e = .returned (.tuple #[.slice none 0 0, .int .i64 3]) ∧ w' = w := by
  have hd : decide (255 < (n : Int)) = true := decide_eq_true (by omega)
  go_enter Tryd.func35, Tryd.ntmps35
  go_wp2_with fail
  go_ret2
  exact ⟨rfl, rfl⟩

set_option maxRecDepth 100000 in
set_option maxHeartbeats 1000000 in
theorem RefFrame_any (A : Option Addr) (n cap : Nat) (l : List UInt8) (w : World) (hn : n ≤ 255) (hA : A = none → cap = 0) (h : Hid (HB w A n l)) :
    Calls Tryd.prog 35 #[.slice A n cap] w fun e w' => ∃ v, e = .returned (.tuple #[v, .int .i64 0]) ∧ RB w' w.heap.size v (frameL l) ∧ Below w.heap.size w w' := by
  obtain ⟨i0, hi0, hz0, hz1, hz2⟩ := info_parts info_u8
  have hd : decide (255 < (n : Int)) = false := decide_eq_false (by omega)
  have hl := Lib.hid h.out.1
  have hc := crcL_lt l
  have R2 := Lib.hid (rb_two w n (255 - n) (by omega) (by omega))
  obtain ⟨c, ec⟩ : ∃ c, crcL l = c := ⟨_, rfl⟩
  rw [ec] at hc
  have ec := Lib.hid ec
  go_enter Tryd.func35, Tryd.ntmps35
  go_wp2_with fail
  refine (RefCrc_any A n cap l _ (by omega) h).mono ?_
  rintro e w1 ⟨rfl, rfl⟩
  rw [ec.out]
  have HA := Lib.hid (h.out.alloc (.cells #[.int .u8 (n : Int), .int .u8 (255 - (n : Int))] 5))
  rw [show ((255 - n : Nat) : Int) = 255 - (n : Int) by omega] at R2
  go_wp2_with (at_builtin; refine wpList_onto_b (by rfl) (.tmp 18) (.tmp 19) 26 (by rfl) w.heap.size i0 Tryd.underlying26 hi0 hz0 hz1 hz2 _ _ (by rfl) R2.out A n cap l (by rfl) HA.out hA ?c1 ?c2 ?_)
  case c1 => simp; omega
  case c2 => simp
  intro v1 w1 r1 g1 _
  have b1 := Lib.hid (RB.below ((Below.refl _ w).alloc (Nat.le_refl _) _) R2.out g1)
  have r1 := Lib.hid r1
  have S1 := Lib.hid (hb_sum w1 c hc)
  clear g1
  have HR := Lib.hid (r1.out.alloc (.cells #[.int .u8 ((c : Int) % 256), .int .u8 ((c : Int) / 256 % 256), .int .u8 ((c : Int) / 65536 % 256), .int .u8 ((c : Int) / 16777216)] 5))
  have bz := b1.out.size
  go_wp2_with (at_builtin; refine wpList_onto_b (by rfl) (.tmp 21) (.tmp 33) 26 (by rfl) w.heap.size i0 Tryd.underlying26 hi0 hz0 hz1 hz2 _ _ (by rfl) HR.out _ 4 4 _ (by rfl) S1.out (fun e => by cases e) ?c1 ?c2 ?_)
  case c1 => have := hl.out; simp; omega
  case c2 => simp; omega
  intro v2 w2 r2 g2 _
  have b2 := Lib.hid (RB.below (b1.out.alloc bz _) HR.out g2)
  have r2 := Lib.hid r2
  clear g2
  go_wp2_with fail
  go_ret2
  refine ⟨v2, rfl, ?_, b2.out⟩
  have := r2.out
  unfold frameL
  rw [hl.out, ec.out]
  exact this
end Go.Proofs.YtjhfgajhmenboaaDoor
