/-
  Contracts: Product and Code, of package symbol and of the document's own answer.
-/
import Derived.Test.YtpfgmebajefjaaaSymPlain
import Derived.Test.YtpfgmebajefjaaaLabelCut
namespace Go.Proofs.Ytpfgmebajefjaaa
open Go.RowKit
set_option linter.unusedVariables false
set_option linter.unusedSimpArgs false

set_option maxRecDepth 100000 in
theorem SAllowed_val (r : Nat) (b : Bool) (w : World) (h : r ≤ 2147483647) (hb : okS r = b) : Calls Try.prog 38 #[.int .i32 r] w fun e w' => e = .returned (.bool b) ∧ w' = w := by
  cases b
  · rcases okS_ways hb with h1 | ⟨h1, h2⟩ | h1 | h1
    · clear hb
      go_enter Try.func38, Try.ntmps38
      go_wp2
      go_ret
      exact ⟨rfl, rfl⟩
    · clear hb
      go_enter Try.func38, Try.ntmps38
      go_wp2
      go_ret
      exact ⟨rfl, rfl⟩
    · clear hb
      go_enter Try.func38, Try.ntmps38
      go_wp2
      go_ret
      exact ⟨rfl, rfl⟩
    · clear hb
      subst h1
      go_enter Try.func38, Try.ntmps38
      go_wp2
      go_ret
      exact ⟨rfl, rfl⟩
  · rcases okS_yes hb with ⟨h1, h2⟩ | ⟨h1, h2, h3⟩
    · clear hb
      go_enter Try.func38, Try.ntmps38
      go_wp2
      go_ret
      exact ⟨rfl, rfl⟩
    · clear hb
      have h4 : ((r : Int) != 930) = true := by simp; omega
      clear h3
      go_enter Try.func38, Try.ntmps38
      go_wp2
      go_ret
      exact ⟨rfl, rfl⟩

set_option maxRecDepth 100000 in
set_option maxHeartbeats 1000000 in
theorem Product_any (l : List UInt8) (w : World) :
    Calls Try.prog 28 #[.string (str l)] w fun e w' => e = .returned (.bool (prodB l)) ∧ Below w.heap.size w w' := by
  go_enter Try.func28, Try.ntmps28
  go_wp2
  go_loopw [3] (fun c wr => ∃ k pos : Nat, k ≤ 4 ∧ c = .int .i64 k ∧ Hid (At l k pos) ∧ OkS l k ∧ wr = w.iter (str l) pos) (fun _ wr => l.length - wr.iterPos w.heap.size)
  case atStart => exact ⟨0, 0, by omega, rfl, Lib.hid (at_zero l), okS_zero l, rfl⟩
  case round =>
    obtain ⟨k, pos, hk, rfl, ha, hok, rfl⟩ := hrel
    by_cases hp : pos < l.length
    · obtain ⟨r, d, hnx, _, hd, hpd, hkl, hg, ha2, hr⟩ := at_step ha.out hp
      have ha2 := Lib.hid ha2
      have hn := hnx w
      have hg := Lib.hid hg
      have hok := Lib.hid hok
      clear hnx
      by_cases h4 : k < 4
      · cases hb : okS r
        · have hbad := Lib.hid (prodB_bad hg.out hb)
          have hb := Lib.hid hb
          have hd1 : decide (4 < (k : Int) + 1) = false := decide_eq_false (by omega)
          go_wp2_with (go_at_call 38; refine (SAllowed_val r false _ hr hb.out).mono ?_; rintro e w' ⟨rfl, rfl⟩)
          go_ret
          exact ⟨ret_b (by rw [hbad.out]), below_iter _ _ _⟩
        · have hok2 := Lib.hid (okS_next hok.out hg.out hb)
          have hb := Lib.hid hb
          have hd1 : decide (4 < (k : Int) + 1) = false := decide_eq_false (by omega)
          go_wp2_with (go_at_call 38; refine (SAllowed_val r true _ hr hb.out).mono ?_; rintro e w' ⟨rfl, rfl⟩)
          go_roundw
          case rel => exact ⟨k + 1, pos + d, by omega, by go_num, ha2, hok2.out, rfl⟩
          case measure => simp only [World.iterPos_iter]; omega
      · have hlong := Lib.hid (prodB_long (l := l) (by omega))
        have hd1 : decide (4 < (k : Int) + 1) = true := decide_eq_true (by omega)
        go_wp2_with fail
        go_ret
        exact ⟨ret_b (by rw [hlong.out]), below_iter _ _ _⟩
    · have hn := (at_stop hp).1 w
      have he := Lib.hid (at_end ha.out hp).2
      have hend := Lib.hid (prodB_end (l := l) (by rw [← he.out]; exact hok) (by rw [← he.out]; exact hk))
      clear hok
      go_wp2
      go_ret
      refine ⟨ret_b ?_, below_iter _ _ _⟩
      rw [hend.out, ← he.out]
      exact decide_eq_decide.2 (by omega)

set_option maxRecDepth 100000 in
set_option maxHeartbeats 1000000 in
theorem RefProduct_any (l : List UInt8) (w : World) (hs : l.length ≤ 140737488355328) :
    Calls Try.prog 36 #[.string (str l)] w fun e w' => e = .returned (.bool (prodB l)) ∧ Below w.heap.size w w' := by
  have fl := fits hs
  go_enter Try.func36, Try.ntmps36
  go_wp2
  go_loopw [3] (fun c wr => ∃ k pos : Nat, k ≤ 140737488355328 ∧ c = .int .i64 k ∧ Hid (At l k pos) ∧ OkS l k ∧ wr = w.iter (str l) pos) (fun _ wr => l.length - wr.iterPos w.heap.size)
  case atStart => exact ⟨0, 0, by omega, rfl, Lib.hid (at_zero l), okS_zero l, rfl⟩
  case round =>
    obtain ⟨k, pos, hk, rfl, ha, hok, rfl⟩ := hrel
    by_cases hp : pos < l.length
    · obtain ⟨r, d, hnx, _, hd, hpd, hkl, hg, ha2, hr⟩ := at_step ha.out hp
      have ha2 := Lib.hid ha2
      have hn := hnx w
      have hg := Lib.hid hg
      have hok := Lib.hid hok
      clear hnx
      cases hb : okS r
      · have hbad := Lib.hid (prodB_bad hg.out hb)
        rcases okS_ways hb with h1 | ⟨h1, h2⟩ | h1 | h1
        · clear hb
          have t1 : decide (65 ≤ (r : Int)) = false := decide_eq_false (by omega)
          have t3 : decide (913 ≤ (r : Int)) = false := decide_eq_false (by omega)
          clear h1
          go_wp2_with fail
          go_ret
          exact ⟨ret_b (by rw [hbad.out]), below_iter _ _ _⟩
        · clear hb
          have t1 : decide (65 ≤ (r : Int)) = true := decide_eq_true (by omega)
          have t2 : decide ((r : Int) ≤ 90) = false := decide_eq_false (by omega)
          have t3 : decide (913 ≤ (r : Int)) = false := decide_eq_false (by omega)
          clear h1 h2
          go_wp2_with fail
          go_ret
          exact ⟨ret_b (by rw [hbad.out]), below_iter _ _ _⟩
        · clear hb
          have t1 : decide (65 ≤ (r : Int)) = true := decide_eq_true (by omega)
          have t2 : decide ((r : Int) ≤ 90) = false := decide_eq_false (by omega)
          have t3 : decide (913 ≤ (r : Int)) = true := decide_eq_true (by omega)
          have t4 : decide ((r : Int) ≤ 937) = false := decide_eq_false (by omega)
          clear h1
          go_wp2_with fail
          go_ret
          exact ⟨ret_b (by rw [hbad.out]), below_iter _ _ _⟩
        · clear hb
          have t1 : decide (65 ≤ (r : Int)) = true := decide_eq_true (by omega)
          have t2 : decide ((r : Int) ≤ 90) = false := decide_eq_false (by omega)
          have t3 : decide (913 ≤ (r : Int)) = true := decide_eq_true (by omega)
          have t4 : decide ((r : Int) ≤ 937) = true := decide_eq_true (by omega)
          have t5 : ((r : Int) != 930) = false := by simp; omega
          clear h1
          go_wp2_with fail
          go_ret
          exact ⟨ret_b (by rw [hbad.out]), below_iter _ _ _⟩
      · have hok2 := Lib.hid (okS_next hok.out hg.out hb)
        rcases okS_yes hb with ⟨h1, h2⟩ | ⟨h1, h2, h3⟩
        · clear hb
          have t1 : decide (65 ≤ (r : Int)) = true := decide_eq_true (by omega)
          have t2 : decide ((r : Int) ≤ 90) = true := decide_eq_true (by omega)
          clear h1 h2
          go_wp2_with fail
          go_roundw
          case rel => exact ⟨k + 1, pos + d, by omega, by go_num, ha2, hok2.out, rfl⟩
          case measure => simp only [World.iterPos_iter]; omega
        · clear hb
          have t1 : decide (65 ≤ (r : Int)) = true := decide_eq_true (by omega)
          have t2 : decide ((r : Int) ≤ 90) = false := decide_eq_false (by omega)
          have t3 : decide (913 ≤ (r : Int)) = true := decide_eq_true (by omega)
          have t4 : decide ((r : Int) ≤ 937) = true := decide_eq_true (by omega)
          have t5 : ((r : Int) != 930) = true := by simp; omega
          clear h1 h2 h3
          go_wp2_with fail
          go_roundw
          case rel => exact ⟨k + 1, pos + d, by omega, by go_num, ha2, hok2.out, rfl⟩
          case measure => simp only [World.iterPos_iter]; omega
    · have hn := (at_stop hp).1 w
      have he := Lib.hid (at_end ha.out hp).2
      have hend := Lib.hid (prodB_end2 (l := l) (by rw [← he.out]; exact hok))
      clear hok
      by_cases h1 : 1 ≤ k
      · have hd1 : decide (1 ≤ (k : Int)) = true := decide_eq_true (by omega)
        go_wp2
        go_ret
        refine ⟨ret_b ?_, below_iter _ _ _⟩
        rw [← hend.out, ← he.out, if_pos (by omega)]
      · have hd1 : decide (1 ≤ (k : Int)) = false := decide_eq_false (by omega)
        go_wp2
        go_ret
        refine ⟨ret_b ?_, below_iter _ _ _⟩
        rw [← hend.out, ← he.out, if_neg (by omega)]

end Go.Proofs.Ytpfgmebajefjaaa
