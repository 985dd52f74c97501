/-
  Contract: Fold, of the document's own answer.
-/
import Derived.Test.YtkgjnapkpbagnaaFoldPlain
namespace Go.Proofs.Ytkgjnapkpbagnaa
open Go.RowKit
set_option linter.unusedVariables false
set_option linter.unusedSimpArgs false

theorem encode_enc (r : Nat) (h : r < 2048) : Utf8.encode (r : Int) = str (enc r) := by
  have hv : Utf8.valid (r : Int) = true := by unfold Utf8.valid; simp; omega
  unfold Utf8.encode enc
  simp only [hv, if_true, Int.toNat_natCast]
  by_cases h1 : r < 128
  · rw [if_pos h1, if_pos h1]; rfl
  · rw [if_neg h1, if_neg h1, if_pos h]; rfl
theorem enc_size (r : Nat) : (enc r).length ≤ 2 := (enc_len r).2
theorem wide_size {r d : Nat} (h : (r < 128 ∧ d = 1) ∨ (128 ≤ r ∧ r < 2048 ∧ d = 2)) : (Utf8.encode (r : Int)).size = d := by
  rcases h with ⟨h1, rfl⟩ | ⟨h1, h2, rfl⟩
  · rw [encode_enc r (by omega), str_size, enc_one h1]
  · rw [encode_enc r h2, str_size, enc_two h1]

/-- The ways in which a rune is not folded, and those in which it is. -/
theorem no_ways {r : Nat} (h : isFold r = false) : r < 97 ∨ (122 < r ∧ r < 945) ∨ 969 < r ∨ r = 962 := by
  have := isFold_no h; omega
theorem yes_ways {r : Nat} (h : isFold r = true) : (97 ≤ r ∧ r ≤ 122) ∨ (945 ≤ r ∧ r ≤ 969 ∧ r ≠ 962) := isFold_yes h

set_option maxRecDepth 100000 in
set_option maxHeartbeats 1000000 in
theorem RefFold_any (l : List UInt8) (w : World) (hs : l.length ≤ 1000000) :
    Calls Try.prog 14 #[.string (str l)] w fun e w' => e = .returned (.string (str (foldL l))) ∧ Below w.heap.size w w' := by
  go_enter Try.func14, Try.ntmps14
  go_wp2
  go_loopw [3, 4] (fun o s wr => ∃ (k pos p : Nat) (acc : List UInt8), Hid (At l k pos) ∧ p ≤ pos ∧ pos ≤ l.length ∧ s = .int .i64 p ∧ o = .string (str acc) ∧ Hid (foldTo l k = acc ++ (l.take pos).drop p) ∧ wr = w.iter (str l) pos) (fun _ _ wr => l.length - wr.iterPos w.heap.size)
  case atStart => exact ⟨0, 0, 0, [], Lib.hid (at_zero l), Nat.le_refl _, Nat.zero_le _, rfl, rfl, Lib.hid rfl, rfl⟩
  case round =>
    obtain ⟨k, pos, p, acc, ha, hpp, hpn, rfl, rfl, hacc, rfl⟩ := hrel
    have hal : acc.length ≤ 1000000 := by
      have h1 := foldTo_len ha.out
      rw [hacc.out, List.length_append] at h1
      omega
    have hasz : (str acc).size ≤ 1000000 := by rw [str_size]; exact hal
    have hz1 : (str l).size ≤ 1000000 := by rw [str_size]; exact hs
    by_cases hp : pos < l.length
    · obtain ⟨r, d, hnx, _, hd, hpd, hkl, hg, ha2, hr⟩ := at_step ha.out hp
      have ha3 := Lib.hid ha2
      have hnn := hnx w
      have hg := Lib.hid hg
      clear hnx ha2
      cases hf : isFold r
      · have hkeep := Lib.hid (fold_keep hg.out hpd hpp hf hacc.out)
        have hf' := no_ways hf
        clear hf
        rcases hf' with h1 | h1 | h1 | h1
        · go_wp2
          go_roundw
          case rel => exact ⟨k + 1, pos + d, p, acc, ha3, by omega, hpd, rfl, rfl, hkeep, rfl⟩
          case measure => simp only [World.iterPos_iter]; omega
        · obtain ⟨h1, h2⟩ := h1
          go_wp2
          go_roundw
          case rel => exact ⟨k + 1, pos + d, p, acc, ha3, by omega, hpd, rfl, rfl, hkeep, rfl⟩
          case measure => simp only [World.iterPos_iter]; omega
        · go_wp2
          go_roundw
          case rel => exact ⟨k + 1, pos + d, p, acc, ha3, by omega, hpd, rfl, rfl, hkeep, rfl⟩
          case measure => simp only [World.iterPos_iter]; omega
        · have i3 : ((r : Int) != 962) = false := by simp; omega
          have i4 : 945 ≤ r := by omega
          have i5 : r ≤ 969 := by omega
          clear h1
          go_wp2
          go_roundw
          case rel => exact ⟨k + 1, pos + d, p, acc, ha3, by omega, hpd, rfl, rfl, hkeep, rfl⟩
          case measure => simp only [World.iterPos_iter]; omega
      · have hturn := Lib.hid (fold_turn hg.out hf hacc.out)
        have hwide := fold_wide hg.out hpd hf
        have hez : (str (enc (r - 32))).size ≤ 2 := by rw [str_size]; exact enc_size _
        have hx : (str l).extract p pos = str ((l.take pos).drop p) := ext_from l p pos hpn
        have hxz : (str ((l.take pos).drop p)).size ≤ 1000000 := by rw [str_size, List.length_drop, List.length_take]; omega
        have hz : pos ≤ (str l).size := by rw [str_size]; exact hpn
        have h32 : 32 ≤ r := by have := isFold_yes hf; omega
        have henc : Utf8.encode ((r : Int) - 32) = str (enc (r - 32)) := by rw [show (r : Int) - 32 = ((r - 32 : Nat) : Int) by omega]; exact encode_enc _ (by have := isFold_yes hf; omega)
        have hrz : Utf8.encode (r : Int) = str (enc r) := encode_enc r (by have := isFold_yes hf; omega)
        have hsd : (str (enc r)).size = d := by rw [← hrz]; exact wide_size hwide
        have hnil : Hid (foldTo l (k + 1) = acc ++ (l.take pos).drop p ++ enc (r - 32) ++ (l.take (pos + d)).drop (pos + d)) := Lib.hid (by rw [hturn.out, List.drop_of_length_le (i := pos + d) (by rw [List.length_take]; omega), List.append_nil])
        have hf' := yes_ways hf
        have hwd : d ≤ 2 := by omega
        clear hf hwide
        obtain ⟨x, ex⟩ : ∃ x, (l.take pos).drop p = x := ⟨_, rfl⟩
        obtain ⟨y, ey⟩ : ∃ y, enc (r - 32) = y := ⟨_, rfl⟩
        obtain ⟨z, ez⟩ : ∃ z, enc r = z := ⟨_, rfl⟩
        rw [ex] at hx hxz hnil
        rw [ey] at hez henc hnil
        rw [ez] at hrz hsd
        have hsd' := Lib.hid hsd
        have hzz : (str z).size ≤ 2 := by have := hsd; have := hwd; omega
        clear hsd
        clear ex ey ez hturn
        have hcv1 : ∀ W : World, (convert 21 9 (.int .i32 (r : Int))).run Try.prog W = .ok (.string (str z)) W := fun W => by
          rw [← hrz]; exact run_convert_int_string W 21 9 .i32 _ (by rw [Try.underlying21]; rfl) Try.underlying9
        have hcv2 : ∀ W : World, (convert 21 9 (.int .i32 ((r : Int) - 32))).run Try.prog W = .ok (.string (str y)) W := fun W => by
          rw [← henc]; exact run_convert_int_string W 21 9 .i32 _ (by rw [Try.underlying21]; rfl) Try.underlying9
        clear hrz henc
        rcases hf' with ⟨h1, h2⟩ | ⟨h1, h2, h3⟩
        · go_wp2
          go_roundw
          case rel => exact ⟨k + 1, pos + d, pos + d, acc ++ x ++ y, ha3, by omega, hpd, by rw [hsd'.out]; go_num, by rw [str_append, str_append], hnil, rfl⟩
          case measure => simp only [World.iterPos_iter]; omega
        · have i3 : ((r : Int) != 962) = true := by simp; omega
          clear h3
          go_wp2
          go_roundw
          case rel => exact ⟨k + 1, pos + d, pos + d, acc ++ x ++ y, ha3, by omega, hpd, by rw [hsd'.out]; go_num, by rw [str_append, str_append], hnil, rfl⟩
          case measure => simp only [World.iterPos_iter]; omega
    · have hnn := (at_stop hp).1 w
      have hfin := Lib.hid (fold_stop ha.out hp hacc.out)
      have hz : p ≤ (str l).size := by rw [str_size]; omega
      have hx : Hid ((str l).extract p (str l).size = str (l.drop p)) := Lib.hid (by rw [str_size, ext_from l p l.length (Nat.le_refl _), List.take_length])
      go_wp2_with fail
      go_ret
      exact ⟨by rw [hx.out, str_append, hfin.out]; rfl, below_iter _ _ _⟩
end Go.Proofs.Ytkgjnapkpbagnaa
