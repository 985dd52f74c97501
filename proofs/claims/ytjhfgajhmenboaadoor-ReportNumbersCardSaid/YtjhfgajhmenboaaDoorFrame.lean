/-
  Contract: Frame, of the program.
-/
import Derived.Test.YtjhfgajhmenboaaDoorNumber
import Derived.Test.YtjhfgajhmenboaaDoorCrc
import Derived.Test.YtjhfgajhmenboaaDoorRefOpen2
namespace Go.Proofs.YtjhfgajhmenboaaDoor
open Go.RowKit
set_option linter.unusedVariables false
set_option linter.unusedSimpArgs false

theorem longTo_four (c : Nat) : longTo c 4 = crcBytes c := by
  unfold longTo crcBytes
  simp [List.range_succ]
set_option maxRecDepth 100000 in
theorem xor_255 : ∀ k : Fin 256, 255 ^^^ k.val = 255 - k.val := by decide
theorem not_byte {n : Nat} (h : n < 256) : bits .xor .u8 255 (n : Int) = 255 - (n : Int) := by
  have e := u8_xor_nat 255 n (by omega) h
  have e2 := xor_255 ⟨n, h⟩
  simp only at e2
  rw [e2] at e
  rw [show (255 : Int) - (n : Int) = ((255 - n : Nat) : Int) by omega]
  exact e

set_option maxRecDepth 100000 in
set_option maxHeartbeats 1000000 in
theorem Frame_long (A : Option Addr) (n cap : Nat) (w : World) (hn : n ≤ 140737488355328) (hl : 255 < n) :
    Calls Tryd.prog 22 #[.slice A n cap] w fun e w' => e = .returned (.tuple #[.slice none 0 0, .int .i64 3]) ∧ w' = w := by
  have hd : decide (255 < (n : Int)) = true := decide_eq_true (by omega)
  go_enter Tryd.func22, Tryd.ntmps22
  go_wp2_with fail
  go_ret2
  exact ⟨rfl, rfl⟩

set_option maxRecDepth 100000 in
set_option maxHeartbeats 1000000 in
theorem Frame_any (A : Option Addr) (n cap : Nat) (l : List UInt8) (w : World) (hn : n ≤ 255) (hA : A = none → cap = 0) (h : Hid (HB w A n l)) :
    Calls Tryd.prog 22 #[.slice A n cap] w fun e w' => ∃ v, e = .returned (.tuple #[v, .int .i64 0]) ∧ RB w' w.heap.size v (frameL l) ∧ Below w.heap.size w w' := by
  obtain ⟨i0, hi0, hz0, hz1, hz2⟩ := info_parts info_u8
  have hd : decide (255 < (n : Int)) = false := decide_eq_false (by omega)
  have hl := Lib.hid h.out.1
  have hc := crcL_lt l
  have R2 := Lib.hid (rb_two w n (255 - n) (by omega) (by omega))
  obtain ⟨c, ec⟩ : ∃ c, crcL l = c := ⟨_, rfl⟩
  rw [ec] at hc
  have ec := Lib.hid ec
  have hnb : bits BinOp.xor IntKind.u8 (if IntKind.u8.signed = true then -1 else IntKind.u8.max) (n : Int) = 255 - (n : Int) := not_byte (show n < 256 by omega)
  have HA := Lib.hid (h.out.alloc (.cells #[.int .u8 (n : Int), .int .u8 (255 - (n : Int))] 5))
  rw [show ((255 - n : Nat) : Int) = 255 - (n : Int) by omega] at R2
  go_enter Tryd.func22, Tryd.ntmps22
  go_wp2_with (at_builtin; refine wpList_onto_b (by rfl) (.tmp 15) (.tmp 16) 26 (by rfl) w.heap.size i0 Tryd.underlying26 hi0 hz0 hz1 hz2 _ _ (by rfl) R2.out A n cap l (by rfl) HA.out hA ?c1 ?c2 ?_)
  case c1 => simp; omega
  case c2 => simp
  intro v1 w1 r1 g1 _
  have b1 := Lib.hid (RB.below ((Below.refl _ w).alloc (Nat.le_refl _) _) R2.out g1)
  have r1 := Lib.hid r1
  have H1 := Lib.hid (h.out.below b1.out)
  clear g1
  go_wp2_with fail
  refine (Crc_any A n cap l _ (by omega) H1).mono ?_
  rintro e w2 ⟨rfl, rfl⟩
  rw [ec.out]
  go_wp2_with fail
  refine (AppendNumber_any w.heap.size v1 _ c 4 _ r1 (by have := hl.out; simp; omega) (by omega) (by omega) b1.out.size).mono ?_
  rintro e w3 ⟨v3, rfl, r3, o3, _⟩
  have r3 := Lib.hid r3
  have b3 := Lib.hid (b1.out.trans (o3.below b1.out.size (fun k hk e => by
    have := (RB.blk r1.out e.symm).1; omega)))
  clear o3
  go_wp2_with fail
  go_ret2
  refine ⟨v3, rfl, ?_, b3.out⟩
  have := r3.out
  rw [longTo_four] at this
  unfold frameL
  rw [hl.out, ec.out]
  exact this
end Go.Proofs.YtjhfgajhmenboaaDoor
