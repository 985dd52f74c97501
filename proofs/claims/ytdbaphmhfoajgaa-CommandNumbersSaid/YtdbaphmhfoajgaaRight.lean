/-
  Contracts: Right, of package label and of the document's own answer.
-/
import Derived.Test.YtdbaphmhfoajgaaCount
namespace Go.Proofs.Ytdbaphmhfoajgaa
open Go.RowKit
set_option linter.unusedVariables false
set_option linter.unusedSimpArgs false

theorem Allowed_val (r : Nat) (b : Bool) (w : World) (h : r ≤ 2147483647) (hb : okR r = b) : Calls Try.prog 54 #[.int .i32 r] w fun e w' => e = .returned (.bool b) ∧ w' = w := by
  rw [← hb]; exact Allowed_any r w h

set_option maxRecDepth 100000 in
set_option maxHeartbeats 1000000 in
theorem Right_any (l : List UInt8) (w : World) :
    Calls Try.prog 39 #[.string (str l)] w fun e w' => e = .returned (.bool (rightB l)) ∧ Below w.heap.size w w' := by
  go_enter Try.func39, Try.ntmps39
  go_wp2
  go_loopw [3] (fun c wr => ∃ k pos : Nat, k ≤ 12 ∧ c = .int .i64 k ∧ Hid (At l k pos) ∧ OkTo l k ∧ wr = w.iter (str l) pos) (fun _ wr => l.length - wr.iterPos w.heap.size)
  case atStart => exact ⟨0, 0, by omega, rfl, Lib.hid (at_zero l), okTo_zero l, rfl⟩
  case round =>
    obtain ⟨k, pos, hk, rfl, ha, hok, rfl⟩ := hrel
    by_cases hp : pos < l.length
    · obtain ⟨r, d, hnx, _, hd, hpd, hkl, hg, ha2, hr⟩ := at_step ha.out hp
      have ha2 := Lib.hid ha2
      have hn := hnx w
      have hg := Lib.hid hg
      have hok := Lib.hid hok
      clear hnx
      by_cases h12 : k < 12
      · cases hb : okR r
        · have hbad := Lib.hid (rightB_bad hg.out hb)
          have hb := Lib.hid hb
          have hd1 : decide (12 < (k : Int) + 1) = false := decide_eq_false (by omega)
          go_wp2_with (go_at_call 54; refine (Allowed_val r false _ hr hb.out).mono ?_; rintro e w' ⟨rfl, rfl⟩)
          go_ret
          exact ⟨ret_b (by rw [hbad.out]), below_iter _ _ _⟩
        · have hok2 := Lib.hid (okTo_next hok.out hg.out hb)
          have hb := Lib.hid hb
          have hd1 : decide (12 < (k : Int) + 1) = false := decide_eq_false (by omega)
          go_wp2_with (go_at_call 54; refine (Allowed_val r true _ hr hb.out).mono ?_; rintro e w' ⟨rfl, rfl⟩)
          go_roundw
          case rel => exact ⟨k + 1, pos + d, by omega, by go_num, ha2, hok2.out, rfl⟩
          case measure => simp only [World.iterPos_iter]; omega
      · have hlong := Lib.hid (rightB_long (l := l) (by omega))
        have hd1 : decide (12 < (k : Int) + 1) = true := decide_eq_true (by omega)
        go_wp2_with fail
        go_ret
        exact ⟨ret_b (by rw [hlong.out]), below_iter _ _ _⟩
    · have hn := (at_stop hp).1 w
      have he := Lib.hid (at_end ha.out hp).2
      have hend := Lib.hid (rightB_end (l := l) (by rw [← he.out]; exact hok) (by rw [← he.out]; exact hk))
      clear hok
      go_wp2
      go_ret
      refine ⟨ret_b ?_, below_iter _ _ _⟩
      rw [hend.out, ← he.out]
      exact decide_eq_decide.2 (by omega)

set_option maxRecDepth 100000 in
theorem Broken_any (r : Nat) (w : World) : Calls Try.prog 55 #[.int .i32 r] w fun e w' => e = .returned (.bool ((r : Int) == 65533)) ∧ w' = w := by
  go_enter Try.func55, Try.ntmps55
  go_wp2
  go_ret
  exact ⟨rfl, rfl⟩
theorem Broken_val (r : Nat) (b : Bool) (w : World) (h : decide (r = 65533) = b) : Calls Try.prog 55 #[.int .i32 r] w fun e w' => e = .returned (.bool b) ∧ w' = w := by
  refine (Broken_any r w).mono ?_
  rintro e w' ⟨rfl, rfl⟩
  refine ⟨ret_b ?_, rfl⟩
  rw [← h, Bool.eq_iff_iff]; simp; omega

theorem ref_end {l : List UInt8} (h : OkTo l (runes l).length) : (if 1 ≤ ((runes l).length : Int) then decide (((runes l).length : Int) ≤ 12) else false) = rightB l := by
  by_cases h12 : (runes l).length ≤ 12
  · rw [rightB_end h h12]
    by_cases h1 : 1 ≤ (runes l).length
    · rw [if_pos (by omega), decide_eq_true (by omega), decide_eq_true (by omega)]
    · rw [if_neg (by omega), decide_eq_false (by omega)]
  · rw [rightB_long (by omega), if_pos (by omega), decide_eq_false (by omega)]

set_option maxRecDepth 100000 in
set_option maxHeartbeats 1000000 in
theorem RefRight_any (l : List UInt8) (w : World) (hs : l.length ≤ 140737488355328) :
    Calls Try.prog 41 #[.string (str l)] w fun e w' => e = .returned (.bool (rightB l)) ∧ Below w.heap.size w w' := by
  have fl := fits hs
  go_enter Try.func41, Try.ntmps41
  go_wp2
  go_loopw [3] (fun c wr => ∃ k pos : Nat, k ≤ 140737488355328 ∧ c = .int .i64 k ∧ Hid (At l k pos) ∧ OkTo l k ∧ wr = w.iter (str l) pos) (fun _ wr => l.length - wr.iterPos w.heap.size)
  case atStart => exact ⟨0, 0, by omega, rfl, Lib.hid (at_zero l), okTo_zero l, rfl⟩
  case round =>
    obtain ⟨k, pos, hk, rfl, ha, hok, rfl⟩ := hrel
    by_cases hp : pos < l.length
    · obtain ⟨r, d, hnx, _, hd, hpd, hkl, hg, ha2, hr⟩ := at_step ha.out hp
      have ha2 := Lib.hid ha2
      have hn := hnx w
      have hg := Lib.hid hg
      have hok := Lib.hid hok
      clear hnx
      cases hb : okR r
      · have hbad := Lib.hid (rightB_bad hg.out hb)
        have hno := okR_no hb
        clear hb
        by_cases h32 : r < 32
        · have hd1 : decide ((r : Int) < 32) = true := decide_eq_true (by omega)
          go_wp2_with fail
          go_ret
          exact ⟨ret_b (by rw [hbad.out]), below_iter _ _ _⟩
        · have hd1 : decide ((r : Int) < 32) = false := decide_eq_false (by omega)
          by_cases h127 : r = 127
          · have hd2 : ((r : Int) == 127) = true := by simp; omega
            have h127 := Lib.hid h127
            clear hno
            go_wp2_with fail
            go_ret
            exact ⟨ret_b (by rw [hbad.out]), below_iter _ _ _⟩
          · have hd2 : ((r : Int) == 127) = false := by simp; omega
            have h3 := Lib.hid (show r = 65533 by omega)
            clear hno
            go_wp2_with (go_at_call 55; refine (Broken_val r true _ (decide_eq_true h3.out)).mono ?_; rintro e w' ⟨rfl, rfl⟩)
            go_ret
            exact ⟨ret_b (by rw [hbad.out]), below_iter _ _ _⟩
      · have hok2 := Lib.hid (okTo_next hok.out hg.out hb)
        obtain ⟨q1, q2, q3⟩ := okR_yes hb
        clear hb
        have hd1 : decide ((r : Int) < 32) = false := decide_eq_false (by omega)
        have hd2 : ((r : Int) == 127) = false := by simp; omega
        go_wp2_with (go_at_call 55; refine (Broken_val r false _ (decide_eq_false q3)).mono ?_; rintro e w' ⟨rfl, rfl⟩)
        go_roundw
        case rel => exact ⟨k + 1, pos + d, by omega, by go_num, ha2, hok2.out, rfl⟩
        case measure => simp only [World.iterPos_iter]; omega
    · have hn := (at_stop hp).1 w
      have he := Lib.hid (at_end ha.out hp).2
      have hend := Lib.hid (ref_end (l := l) (by rw [← he.out]; exact hok))
      clear hok
      by_cases h1 : 1 ≤ k
      · have hd1 : decide (1 ≤ (k : Int)) = true := decide_eq_true (by omega)
        go_wp2
        go_ret
        refine ⟨ret_b ?_, below_iter _ _ _⟩
        rw [← hend.out, ← he.out, if_pos (by omega)]
      · have hd1 : decide (1 ≤ (k : Int)) = false := decide_eq_false (by omega)
        go_wp2
        go_ret
        refine ⟨ret_b ?_, below_iter _ _ _⟩
        rw [← hend.out, ← he.out, if_neg (by omega)]
end Go.Proofs.Ytdbaphmhfoajgaa
