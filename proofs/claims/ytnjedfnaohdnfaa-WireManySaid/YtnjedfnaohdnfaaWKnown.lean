/-
  Contract: known, of the law's own package.
-/
import Derived.Test.YtnjedfnaohdnfaaOpen3
import Derived.Lib.SlBytesConst
namespace Go.Proofs.Ytnjedfnaohdnfaa
open Go.RowKit
set_option linter.unusedVariables false
set_option linter.unusedSimpArgs false

def nine : List UInt8 := [49, 50, 51, 52, 53, 54, 55, 56, 57]
theorem crc_nine : crcL nine = 3421780262 := by kernel_rfl
theorem frame_nil : frameL [] = [0, 255, 0, 0, 0, 0] := by kernel_rfl
theorem hb_marked (w : World) (l : List UInt8) (f : Nat × Nat) : HB (w.alloc (.cells (l.map bc).toArray 5 f)) (some ⟨w.heap.size, 0, none⟩) l.length l := by
  refine ⟨rfl, fun _ => ⟨w.heap.size, 0, rfl, fun k hk => ?_⟩⟩
  rw [Nat.zero_add, Lib.cell_of_heap (heap_alloc_new w _)]
  simp [List.getD, List.getElem?_eq_getElem hk]
theorem hb_nine (w : World) (f : Nat × Nat) : HB (w.alloc (.cells #[.int .u8 49, .int .u8 50, .int .u8 51, .int .u8 52, .int .u8 53, .int .u8 54, .int .u8 55, .int .u8 56, .int .u8 57] 5 f)) (some ⟨w.heap.size, 0, none⟩) 9 nine := hb_marked w nine f

set_option maxRecDepth 100000 in
set_option maxHeartbeats 1000000 in
theorem Known_any (w : World) :
    Calls Try.prog 13 #[] w fun e w' => e = .returned (.bool true) ∧ Below w.heap.size w w' := by
  have hF := Frame_any none 0 0 [] w (by omega) (fun _ => rfl) (Lib.hid (hb_nil w none))
  rw [frame_nil] at hF
  have hF := Lib.hid hF
  have kc := fun (w : World) (C : Array Value) (n c : Nat) => Lib.run_convert_bytes_const (P := Try.prog) w 22 5 C n c Try.underlying22 Try.underlying5
  go_enter Try.func13, Try.ntmps13
  go_wp2_with fail
  refine hF.out.mono ?_
  rintro e w1 ⟨v1, rfl, r1, b1⟩
  obtain ⟨A1, c1, e1, H1, _, _, _⟩ := r1.holds
  rw [show ([0, 255, 0, 0, 0, 0] : List UInt8).length = 6 from rfl] at e1 H1
  subst e1
  have H1 := Lib.hid H1
  have b1 := Lib.hid b1
  clear r1
  go_wp2_with fail
  refine (Crc_any _ 9 9 nine _ (by omega) (Lib.hid (hb_nine w1 _))).mono ?_
  rintro e w2 ⟨rfl, rfl⟩
  rw [crc_nine]
  have H2 := H1.out.alloc (.cells #[.int .u8 49, .int .u8 50, .int .u8 51, .int .u8 52, .int .u8 53, .int .u8 54, .int .u8 55, .int .u8 56, .int .u8 57] 5 (9, 10))
  have hcv : (convert 22 9 (.slice A1 6 c1)).run Try.prog (w1.alloc (.cells #[.int .u8 49, .int .u8 50, .int .u8 51, .int .u8 52, .int .u8 53, .int .u8 54, .int .u8 55, .int .u8 56, .int .u8 57] 5 (9, 10))) = .ok (.string (str [0, 255, 0, 0, 0, 0])) (w1.alloc (.cells #[.int .u8 49, .int .u8 50, .int .u8 51, .int .u8 52, .int .u8 53, .int .u8 54, .int .u8 55, .int .u8 56, .int .u8 57] 5 (9, 10))) := HB.string (l := [0, 255, 0, 0, 0, 0]) H2 c1
  clear H2
  have hs : ((str [0, 255, 0, 0, 0, 0]).toList == [0, 255, 0, 0, 0, 0]) = true := by rw [ByteArray.toList_eq]; rfl
  go_wp2_with fail
  go_ret
  exact ⟨rfl, b1.out.alloc b1.out.size _⟩
end Go.Proofs.Ytnjedfnaohdnfaa
