/-
  Contracts: Code, of package symbol and of the document's own answer.
-/
import Derived.Test.YtbigmbpclikenaaSymCode
import Derived.Laws.IdiomStrings
namespace Go.Proofs.Ytbigmbpclikenaa
open Go.RowKit
set_option linter.unusedVariables false
set_option linter.unusedSimpArgs false

theorem three_bytes (w : World) (x y z : UInt8) :
    (convert 70 9 (.slice (some ⟨w.heap.size, 0, none⟩) 3 3)).run Try.prog (w.alloc (.cells #[.int .u8 x.toNat, .int .u8 y.toNat, .int .u8 z.toNat] 5)) =
      .ok (.string (str [x, y, z])) (w.alloc (.cells #[.int .u8 x.toNat, .int .u8 y.toNat, .int .u8 z.toNat] 5)) := by
  refine run_convert_bytes_back (P := Try.prog) _ 70 9 5 ⟨w.heap.size, 0, none⟩ 3 [x, y, z] Try.underlying70 Try.underlying5 Try.underlying9 (fun j hj => ?_)
  have hj3 : j < 3 := hj
  have hp : (⟨w.heap.size, 0, none⟩ : Addr).add j = ⟨w.heap.size, j, none⟩ := by unfold Addr.add; split <;> simp_all
  rw [hp, Lib.cell_of_heap (heap_alloc_new w _)]
  match j, hj3 with
  | 0, _ => rfl
  | 1, _ => rfl
  | 2, _ => rfl
theorem letter_at (k : Nat) (h : k < (⟨#[70, 71, 72, 74, 75, 77, 78, 81, 85, 86, 88, 90]⟩ : ByteArray).size) : (⟨#[70, 71, 72, 74, 75, 77, 78, 81, 85, 86, 88, 90]⟩ : ByteArray)[k] = letters.getD k 0 := by
  have h12 : k < 12 := h
  match k, h12 with
  | 0, _ | 1, _ | 2, _ | 3, _ | 4, _ | 5, _ | 6, _ | 7, _ | 8, _ | 9, _ | 10, _ | 11, _ => rfl

set_option maxRecDepth 100000 in
set_option maxHeartbeats 1000000 in
theorem Code_yes (p : List UInt8) (m y k a b : Nat) (w : World) (hp : prodB p = true) (hm : m ≤ 1199) (hy : m / 12 = y) (hk : m % 12 = k) (ha : y / 10 = a) (hb : y % 10 = b) :
    Calls Try.prog 26 #[.string (str p), .int .i64 m] w fun e w' => e = .returned (.tuple #[.string (str (p ++ tail m)), .int .i64 0]) ∧ Below w.heap.size w w' := by
  have Hp := Lib.hid hp
  have hl := (prodB_len hp).2
  have hz : (str p).size ≤ 8 := by rw [str_size]; exact hl
  clear hp
  go_enter Try.func26, Try.ntmps26
  go_wp2_with fail
  refine (Product_any p _).mono ?_
  rintro e w1 ⟨rfl, b1⟩
  rw [Hp.out]
  have B1 := Lib.hid b1
  clear b1
  go_wp2_with fail
  have h10 : (m : Int) / 12 / 10 = (a : Int) := by omega
  have h11 : (m : Int) / 12 % 10 = (b : Int) := by omega
  have a9 : a ≤ 9 := by omega
  have b9 : b ≤ 9 := by omega
  rw [h10]
  refine (Digit_any a _ a9).mono ?_
  rintro e w' ⟨rfl, rfl⟩
  go_wp2_with fail
  rw [h11]
  refine (Digit_any b _ b9).mono ?_
  rintro e w' ⟨rfl, rfl⟩
  go_wp2_with fail
  have ha2 : (48 : Int) + (a : Int) = ((UInt8.ofNat (48 + a)).toNat : Int) := by rw [digit_nat a9]; omega
  have hb2 : (48 : Int) + (b : Int) = ((UInt8.ofNat (48 + b)).toNat : Int) := by rw [digit_nat b9]; omega
  have ht : tail m = [letters.getD k 0, UInt8.ofNat (48 + a), UInt8.ofNat (48 + b)] := by unfold tail; rw [hk, hy, ha, hb]
  obtain ⟨c, ec⟩ : ∃ c, letters.getD k 0 = c := ⟨_, rfl⟩
  obtain ⟨x, ex⟩ : ∃ x, UInt8.ofNat (48 + a) = x := ⟨_, rfl⟩
  obtain ⟨y, ey⟩ : ∃ y, UInt8.ofNat (48 + b) = y := ⟨_, rfl⟩
  rw [ha2, hb2, letter_at, ec, ex, ey, three_bytes]
  rw [ec, ex, ey] at ht
  simp only [Result.andThen]
  rw [Oper.upon_value]
  have Hj := Lib.hid (show str p ++ str [c, x, y] = str (p ++ tail m) by rw [str_append, ht])
  have hz3 : (str [c, x, y]).size = 3 := rfl
  clear ha2 hb2 h10 h11 hk hy ha hb ht ec ex ey
  go_wp2_with fail
  go_ret2
  refine ⟨by rw [Hj.out]; rfl, ?_⟩
  exact B1.out.alloc B1.out.size _

theorem encode_ascii (r : Nat) (h : r < 128) : Utf8.encode (r : Int) = str [UInt8.ofNat r] := by
  have hv : Utf8.valid (r : Int) = true := by unfold Utf8.valid; simp; omega
  unfold Utf8.encode
  simp only [hv, if_true, Int.toNat_natCast]
  rw [if_pos h]; rfl
theorem letter_ext (k : Nat) (h : k < 12) : (⟨#[70, 71, 72, 74, 75, 77, 78, 81, 85, 86, 88, 90]⟩ : ByteArray).extract k (k + 1) = str [letters.getD k 0] := by
  show (str letters).extract k (k + 1) = _
  rw [ext_str]
  match k, h with
  | 0, _ | 1, _ | 2, _ | 3, _ | 4, _ | 5, _ | 6, _ | 7, _ | 8, _ | 9, _ | 10, _ | 11, _ => rfl

set_option maxRecDepth 100000 in
set_option maxHeartbeats 1000000 in
theorem RefCode_yes (p : List UInt8) (m y k a b : Nat) (w : World) (hp : prodB p = true) (hm : m ≤ 1199) (hy : m / 12 = y) (hk : m % 12 = k) (ha : y / 10 = a) (hb : y % 10 = b) :
    Calls Try.prog 43 #[.string (str p), .int .i64 m] w fun e w' => e = .returned (.tuple #[.string (str (p ++ tail m)), .int .i64 0]) ∧ Below w.heap.size w w' := by
  have Hp := Lib.hid hp
  have hl := (prodB_len hp).2
  have hz : (str p).size ≤ 8 := by rw [str_size]; exact hl
  clear hp
  go_enter Try.func43, Try.ntmps43
  go_wp2_with fail
  refine (RefProduct_any p _ (by omega)).mono ?_
  rintro e w1 ⟨rfl, b1⟩
  rw [Hp.out]
  have B1 := Lib.hid b1
  clear b1
  go_wp2_with fail
  have h12 : (m : Int) % 12 = (k : Int) := by omega
  have h13 : (k : Int) + 1 = ((k + 1 : Nat) : Int) := by omega
  have k12 : k < 12 := by omega
  have h14 : (m : Int) / 12 / 10 = (a : Int) := by omega
  have h15 : (m : Int) / 12 % 10 = (b : Int) := by omega
  have a9 : a ≤ 9 := by omega
  have b9 : b ≤ 9 := by omega
  have ht : tail m = [letters.getD k 0, UInt8.ofNat (48 + a), UInt8.ofNat (48 + b)] := by unfold tail; rw [hk, hy, ha, hb]
  have hx : Hid ((⟨#[70, 71, 72, 74, 75, 77, 78, 81, 85, 86, 88, 90]⟩ : ByteArray).extract ((k : Int)).toNat ((k + 1 : Nat) : Int).toNat = str [letters.getD k 0]) := Lib.hid (letter_ext k k12)
  have ca : ∀ W : World, (convert 21 9 (.int .i32 (48 + (m : Int) / 12 / 10))).run Try.prog W = .ok (.string (str [UInt8.ofNat (48 + a)])) W := fun W => by
    rw [run_convert_int_string W 21 9 .i32 _ (by kernel_rfl) Try.underlying9, show (48 : Int) + (m : Int) / 12 / 10 = ((48 + a : Nat) : Int) by omega, encode_ascii _ (by omega)]
  have cb : ∀ W : World, (convert 21 9 (.int .i32 (48 + (m : Int) / 12 % 10))).run Try.prog W = .ok (.string (str [UInt8.ofNat (48 + b)])) W := fun W => by
    rw [run_convert_int_string W 21 9 .i32 _ (by kernel_rfl) Try.underlying9, show (48 : Int) + (m : Int) / 12 % 10 = ((48 + b : Nat) : Int) by omega, encode_ascii _ (by omega)]
  obtain ⟨c, ec⟩ : ∃ c, letters.getD k 0 = c := ⟨_, rfl⟩
  obtain ⟨x, ex⟩ : ∃ x, UInt8.ofNat (48 + a) = x := ⟨_, rfl⟩
  obtain ⟨z, ez⟩ : ∃ z, UInt8.ofNat (48 + b) = z := ⟨_, rfl⟩
  rw [h12, h13, run_slice_string _ _ _ _ _ _ _ Try.underlying9 (by omega) (by omega) (by show ((k + 1 : Nat) : Int) ≤ 12; omega), hx.out, ec]
  rw [ec, ex, ez] at ht
  rw [ex] at ca
  rw [ez] at cb
  have Hj := Lib.hid (show str p ++ str [c] ++ str [x] ++ str [z] = str (p ++ tail m) by rw [str_append, str_append, str_append, ht]; simp)
  have hz3 : (str [c]).size = 1 := rfl
  have hz4 : (str [x]).size = 1 := rfl
  have hz5 : (str [z]).size = 1 := rfl
  simp only [Result.andThen]
  rw [Oper.upon_value]
  have H14 := Lib.hid h14
  have H15 := Lib.hid h15
  clear h12 h13 h14 h15 hx ec ex ez ht hk hy ha hb
  go_wp2_with fail
  go_ret2
  exact ⟨by rw [Hj.out]; rfl, B1.out⟩
end Go.Proofs.Ytbigmbpclikenaa
