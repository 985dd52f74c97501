/-
  Contract: Crc, of the document's own answer.
-/
import Derived.Test.YtjhfgajhmenboaaDoorBytes
import Derived.Test.YtjhfgajhmenboaaDoorCrcPlain
import Derived.Laws.BitsAllLaws
namespace Go.Proofs.YtjhfgajhmenboaaDoor
open Go.RowKit
set_option linter.unusedVariables false
set_option linter.unusedSimpArgs false

theorem u32_and_one (v : Nat) (h : v < 4294967296) : bits .and .u32 (v : Int) 1 = ((v % 2 : Nat) : Int) := by
  have := u32_and_nat v 1 h (by omega)
  rw [Nat.and_one_is_mod] at this
  exact this
set_option maxRecDepth 100000 in
set_option maxHeartbeats 1000000 in
theorem RefCrc_any (A : Option Addr) (n cap : Nat) (l : List UInt8) (w : World) (hn : n ≤ 140737488355328) (h : Hid (HB w A n l)) :
    Calls Tryd.prog 50 #[.slice A n cap] w fun e w' => e = .returned (.int .u32 (crcL l)) ∧ w = w' := by
  go_enter Tryd.func50, Tryd.ntmps50
  go_wp2
  go_loop [3, 4] (fun c i => ∃ (x k : Nat), c = .int .u32 x ∧ i = .int .i64 k ∧ k ≤ n ∧ x < 4294967296 ∧ Hid (crcRow 4294967295 (l.take k) = x)) (fun _ i => n - (intOf i).toNat)
  case atStart => exact ⟨4294967295, 0, rfl, rfl, by omega, by omega, Lib.hid (by rw [List.take_zero, crcRow_nil])⟩
  case round =>
    obtain ⟨x, k, rfl, rfl, hk, hx, hrow⟩ := hrel
    by_cases hlt : k < n
    · obtain ⟨b, off, rfl, hc⟩ := h.out.2 (by omega)
      have hcell := hc k hlt
      unfold bc at hcell
      clear hc
      have hnext := Lib.hid (crcRow_take l 4294967295 k (by rw [h.out.1]; exact hlt))
      rw [hrow.out] at hnext
      obtain ⟨y, ey⟩ : ∃ y, l.getD k 0 = y := ⟨_, rfl⟩
      rw [ey] at hcell hnext
      clear ey
      have hy := y.toNat_lt
      have hxor := u32_xor_nat x y.toNat hx (by omega)
      have hz := xor_lt hx (show y.toNat < 4294967296 by omega)
      have hstart := Lib.hid (crcByte_def x y.toNat)
      obtain ⟨z, ez⟩ : ∃ z, x ^^^ y.toNat = z := ⟨_, rfl⟩
      obtain ⟨u, eu⟩ : ∃ u, crcByte x y.toNat = u := ⟨_, rfl⟩
      have hu : u < 4294967296 := by rw [← eu]; exact crcByte_lt y hx
      rw [ez] at hxor hz hstart
      rw [eu] at hstart hnext
      clear ez eu
      go_wp2
      go_loop [3, 5] (fun c i => ∃ (v j : Nat), c = .int .u32 v ∧ i = .int .i64 j ∧ j ≤ 8 ∧ v < 4294967296 ∧ Hid (u = crcBits (8 - j) v)) (fun _ i => (8 - intOf i).toNat)
      case atStart => exact ⟨z, 0, rfl, rfl, by omega, hz, hstart⟩
      case round =>
        obtain ⟨v, j, rfl, rfl, hj, hv, hbits⟩ := hrel
        clear hxor
        by_cases hjl : j < 8
        · have hb2 := hbits.out
          rw [show 8 - j = (8 - (j + 1)) + 1 by omega, crcBits_succ] at hb2
          rcases Nat.mod_two_eq_zero_or_one v with h1 | h1
          · have hand : bits .and .u32 (v : Int) 1 = 0 := by rw [u32_and_one v hv]; omega
            rw [crcBit_no h1] at hb2
            have hb2 := Lib.hid hb2
            clear h1
            go_wp2
            go_round
            case rel => exact ⟨v / 2, j + 1, rfl, by go_num, by omega, by omega, hb2⟩
            case measure => simp [intOf]; omega
          · have hand : bits .and .u32 (v : Int) 1 = 1 := by rw [u32_and_one v hv]; omega
            rw [crcBit_yes h1] at hb2
            have hb2 := Lib.hid hb2
            have hx2 := Lib.hid (u32_xor_nat (v / 2) 3988292384 (by omega) (by omega))
            have hlt2 := xor_lt (show v / 2 < 4294967296 by omega) (show 3988292384 < 4294967296 by omega)
            clear h1
            go_wp2
            go_round
            case rel => exact ⟨v / 2 ^^^ 3988292384, j + 1, congrArg (Value.int .u32) hx2.out, by go_num, by omega, hlt2, hb2⟩
            case measure => simp [intOf]; omega
        · obtain rfl : j = 8 := by omega
          have hend := hbits.out
          rw [Nat.sub_self, crcBits_zero] at hend
          subst hend
          go_wp2
          go_round
          case rel => exact ⟨u, k + 1, rfl, by go_num, by omega, hu, hnext⟩
          case measure => simp [intOf]; omega
    · obtain rfl : k = n := by omega
      have hall := hrow.out
      rw [List.take_of_length_le (by rw [h.out.1]; omega)] at hall
      have hx2 := Lib.hid (u32_xor_nat x 4294967295 hx (by omega))
      have hcl := Lib.hid (show crcL l = x ^^^ 4294967295 by unfold crcL; rw [hall])
      clear hall
      go_wp2
      go_ret
      refine ⟨?_, rfl⟩
      rw [hcl.out]
      exact congrArg (fun v => Ending.returned (Value.int .u32 v)) hx2.out
end Go.Proofs.YtjhfgajhmenboaaDoor
