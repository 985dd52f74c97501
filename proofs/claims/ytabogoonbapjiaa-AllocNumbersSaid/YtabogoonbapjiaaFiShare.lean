/-
  Share, of the program and of the document.
-/
import Derived.Test.YtabogoonbapjiaaFiRight
import Derived.Test.YtabogoonbapjiaaFiRef
namespace Go.Proofs.Ytabogoonbapjiaa
open Go.RowKit
set_option linter.unusedVariables false
set_option linter.unusedSimpArgs false

/-- What a call leaves that answers a list: its own row, all else as it was. -/
def Gave (w : World) (l : List Int) (e : Ending) (w' : World) : Prop := ∃ v, e = .returned v ∧ Row w' w.heap.size v l ∧ Below w.heap.size w w'

set_option maxRecDepth 100000 in
set_option maxHeartbeats 1600000 in
theorem FShare_any (A : Option Addr) (n cap : Nat) (xs : List Int) (q : Int) (w : World) (hn : n ≤ 9223372036854775807) (q1 : -9223372036854775808 ≤ q) (q2 : q ≤ 9223372036854775807) (h : Hid (Holds w A n xs)) :
    Calls Try.prog 16 #[.slice A n cap, .int .i64 q] w (Gave w (shareL xs q)) := by
  have HR := Lib.hid (FRight_any A n cap xs q w hn q1 q2 h)
  cases hr : rightL xs q with
  | false =>
    rw [share_no hr]
    rw [hr] at HR
    clear hr
    go_enter Try.func16, Try.ntmps16
    go_wp2_with fail
    refine HR.out.mono ?_
    rintro e w1 ⟨rfl, rfl⟩
    go_wp2_with fail
    go_ret
    exact ⟨_, rfl, row_nil _ _, Below.refl _ _⟩
  | true =>
    rw [share_yes hr]
    rw [hr] at HR
    obtain ⟨hl, hx, hq, hqs⟩ := (right_iff xs q).1 hr
    have hlen := h.out.1
    have hbig := (sumL_bound xs 1000000 (fun x hh => by have := hx x hh; omega)).2
    have hfl := fill_len xs q
    have hrest : ∀ k, 0 ≤ q - sumL ((fillL xs q).take k) := fun k => by rw [fill_sums xs q k (fun x hh => by have := hx x hh; omega) hq]; omega
    replace hrest := Lib.hid hrest
    obtain ⟨F, hF⟩ : ∃ F, fillL xs q = F := ⟨_, rfl⟩
    have hget : ∀ k, k < n → F.getD k 0 = min (xs.getD k 0) (q - sumL (F.take k)) := fun k hk => by rw [← hF]; exact fill_get xs q k (by omega)
    replace hget := Lib.hid hget
    rw [hF] at hfl hrest ⊢
    have hq3 : q ≤ 250000000 := by omega
    replace hF := Lib.hid hF
    replace hx := Lib.hid hx
    clear hr hbig hqs
    obtain ⟨i0, hi0, hz0, hz1, hz2⟩ := info_parts info_num
    go_enter Try.func16, Try.ntmps16
    go_wp2_with fail
    refine HR.out.mono ?_
    rintro e w1 ⟨rfl, rfl⟩
    go_wp2_with (at_make; refine wpList_make_full _ (by rfl) (.tmp 13) (.tmp 13) 26 (by rfl) w1.heap.size 2 i0 (.int .i64 0) 1 Try.underlying26 hi0 hz0 hz1 .i64 .i64 _ _ n (by rfl) (by rfl) rfl rfl (by rw [hz2]; omega) (by unfold maxLen; omega) (Nat.le_refl _) ?_)
    intro w2 r2 g2
    have R2 := Lib.hid (row_made r2)
    have B2 : Hid (Below w1.heap.size w1 w2) := Lib.hid ((Below.refl _ w1).grown g2 (Nat.le_refl _) (fun k e => by cases e))
    obtain ⟨g, hg⟩ : ∃ g, w1.heap.size = g := ⟨_, rfl⟩
    have H2 := Lib.hid (h.out.below B2.out)
    have hAg : Hid (∀ ad, A = some ad → 0 < n → ad.block < g) := Lib.hid (fun ad e h0 => by
      obtain ⟨b, off, e2, hc⟩ := h.out.2.2 h0
      rw [e] at e2
      injection e2 with e2
      subst e2
      rw [← hg]
      exact World.block_lt_of_cell? w1 _ (hc 0 h0))
    rw [hg] at R2 B2
    replace hg := Lib.hid hg
    clear r2 g2
    go_wp2_with fail
    rw [hg.out]
    go_loopw [1, 17] (fun s i wr => ∃ (k : Nat) (m : Int), s = .int .i64 m ∧ i = .int .i64 k ∧ k ≤ n ∧ Hid (m = q - sumL (F.take k)) ∧ 0 ≤ m ∧ m ≤ 250000000 ∧ Hid (Row wr g (.slice (some ⟨g, 0, none⟩) n n) (curL F n k)) ∧ Hid (Below g w1 wr)) (fun _ i _ => n - (intOf i).toNat)
    case atStart => exact ⟨0, q, rfl, rfl, by omega, Lib.hid (by simp [sumL]), hq, hq3, by rw [cur_zero]; exact R2, B2⟩
    case round =>
      obtain ⟨k, m, rfl, rfl, hk, hm, m1, m2, hR, hB⟩ := hrel
      by_cases hlt : k < n
      · have hF2 : F.length = n := by omega
        have hcl := cur_len hF2 hk
        have hg0 := hget.out k hlt
        rw [← hm.out] at hg0
        have hnx := cur_set hF2 hlt
        have hst := sumL_take F k (by omega)
        have hr1 := hrest.out (k + 1)
        obtain ⟨g', cap', e', -, hgw, hcc, hcm, hfz, hcl2⟩ := hR.out.open' (by omega)
        rw [hcl] at e' hcl2
        injection e' with e1 e2 e3
        injection e1 with e1
        injection e1 with e1
        subst e1; subst e3
        have hfk := hfz k
        have hck := hcl2 k hlt
        have HW := h.out.below (hg.out ▸ hB.out)
        obtain ⟨b, off, rfl, hc⟩ := HW.2.2 (by omega)
        have hcell := hc k hlt
        have hne := hAg.out _ rfl (by omega)
        obtain ⟨x1, x2⟩ := h.out.i64 hlt
        have hxk := hx.out _ (getD_mem (show k < xs.length by omega))
        generalize xs.getD k 0 = x at *
        obtain ⟨y, hy⟩ : ∃ y, min x m = y := ⟨_, rfl⟩
        rw [hy] at hg0
        rw [hg0] at hnx hst
        have hRs := hR.out.set (k := k) (by omega) y
        rw [hnx] at hRs
        replace hRs := Lib.hid hRs
        have d1 : decide ((k : Int) < (n : Int)) = true := decide_eq_true (by omega)
        have d1' : (k : Int) < (n : Int) := by omega
        have hBs : Below g w1 (wr.setCell ⟨g, k, none⟩ (.int .i64 y)) := hB.out.trans ((set_only wr g k (.int .i64 y)).below (by omega) (fun j hj e => by omega))
        replace hBs := Lib.hid hBs
        rw [hst] at hr1
        replace hst := Lib.hid hst
        have y0 : 0 ≤ y := by
          omega
        have hyb : y ≤ m := by omega
        replace hnx := Lib.hid hnx
        replace hg0 := Lib.hid hg0
        clear hc hcl2
        have hsum : m - y = q - (sumL (F.take k) + y) := by rw [hm.out]; omega
        replace hsum := Lib.hid hsum
        by_cases hmx : m < x
        · obtain rfl : y = m := by omega
          clear hy
          go_wp2_with fail
          go_roundw
          case rel => exact ⟨k + 1, 0, by go_num, by go_num, by omega, Lib.hid (by rw [hst.out, ← hsum.out]; omega), by omega, by omega, hRs, hBs⟩
          case measure => simp [intOf]; omega
        · obtain rfl : y = x := by omega
          clear hy
          have w1' : wrap64 (m - y) = m - y := IntWalk.wrap64_in _ ⟨by omega, by omega⟩
          go_wp2_with fail
          go_roundw
          case rel => exact ⟨k + 1, m - y, by go_num, by go_num, by omega, Lib.hid (by rw [hst.out, ← hsum.out]), by omega, by omega, hRs, hBs⟩
          case measure => simp [intOf]; omega
      · obtain rfl : k = n := by omega
        have d1 : decide ((k : Int) < (k : Int)) = false := by simp
        go_wp2_with fail
        go_ret
        exact ⟨_, rfl, by rw [cur_full (by omega)] at hR; rw [hg.out]; exact hR.out, by rw [hg.out]; exact hB.out⟩

theorem one_lit (w : World) (x : Int) (T : TypeId) (h1 : -9223372036854775808 ≤ x) (h2 : x ≤ 9223372036854775807) : Holds (w.alloc (.cells #[.int .i64 x] T)) (some ⟨w.heap.size, 0, none⟩) 1 [x] := holds_lit w [x] T (by intro y hy; simp only [List.mem_singleton] at hy; subst hy; exact ⟨h1, h2⟩)

set_option maxRecDepth 100000 in
set_option maxHeartbeats 1600000 in
theorem RFill_any (A : Option Addr) (n cap : Nat) (xs : List Int) (q : Int) (w : World) (h : Hid (Holds w A n xs)) (hr : rightL xs q = true) :
    Calls Try.prog 33 #[.slice A n cap, .int .i64 q] w (Gave w (fillL xs q)) := by
  obtain ⟨hl, hx, hq, hqs⟩ := (right_iff xs q).1 hr
  have hlen := h.out.1
  have hbig := (sumL_bound xs 1000000 (fun x hh => by have := hx x hh; omega)).2
  have hfl := fill_len xs q
  have hrest : ∀ k, 0 ≤ q - sumL ((fillL xs q).take k) := fun k => by rw [fill_sums xs q k (fun x hh => by have := hx x hh; omega) hq]; omega
  replace hrest := Lib.hid hrest
  obtain ⟨F, hF⟩ : ∃ F, fillL xs q = F := ⟨_, rfl⟩
  have hget : ∀ k, k < n → F.getD k 0 = min (xs.getD k 0) (q - sumL (F.take k)) := fun k hk => by rw [← hF]; exact fill_get xs q k (by omega)
  replace hget := Lib.hid hget
  rw [hF] at hfl hrest ⊢
  have hq3 : q ≤ 250000000 := by omega
  replace hF := Lib.hid hF
  replace hx := Lib.hid hx
  clear hr hbig hqs
  obtain ⟨i0, hi0, hz0, hz1, hz2⟩ := info_parts info_num
  have R0 := Lib.hid (row_nil w w.heap.size)
  have B0 := Lib.hid (Below.refl w.heap.size w)
  obtain ⟨g, hg⟩ : ∃ g, w.heap.size = g := ⟨_, rfl⟩
  rw [hg] at R0 B0
  replace hg := Lib.hid hg
  go_enter Try.func33, Try.ntmps33
  go_wp2_with fail
  go_loopw [1, 5, 6] (fun s u i wr => ∃ (k : Nat) (m : Int), s = .int .i64 m ∧ i = .int .i64 k ∧ k ≤ n ∧ Hid (m = q - sumL (F.take k)) ∧ 0 ≤ m ∧ m ≤ 250000000 ∧ Hid (Row wr g u (F.take k)) ∧ Hid (Below g w wr)) (fun _ _ i _ => n - (intOf i).toNat)
  case atStart => exact ⟨0, q, rfl, rfl, by omega, Lib.hid (by simp [sumL]), hq, hq3, by simpa using R0, B0⟩
  case round =>
    obtain ⟨k, m, rfl, rfl, hk, hm, m1, m2, hR, hB⟩ := hrel
    by_cases hlt : k < n
    · have hg0 := hget.out k hlt
      rw [← hm.out] at hg0
      have hst := sumL_take F k (by omega)
      have hr1 := hrest.out (k + 1)
      have hnx : F.take (k + 1) = F.take k ++ [F.getD k 0] := by rw [List.take_add_one]; simp [List.getD, List.getElem?_eq_getElem (show k < F.length by omega)]
      have HW := h.out.below (hg.out ▸ hB.out)
      obtain ⟨b, off, rfl, hc⟩ := HW.2.2 (by omega)
      have hcell := hc k hlt
      have hxk := hx.out _ (getD_mem (show k < xs.length by omega))
      have hw : g ≤ wr.heap.size := by rw [← hg.out]; exact hB.out.size
      clear hc
      generalize xs.getD k 0 = x at *
      obtain ⟨y, hy⟩ : ∃ y, min x m = y := ⟨_, rfl⟩
      rw [hy] at hg0
      rw [hg0] at hnx hst
      rw [hst] at hr1
      replace hst := Lib.hid hst
      replace hnx := Lib.hid hnx
      replace hg0 := Lib.hid hg0
      have y0 : 0 ≤ y := by omega
      have hyb : y ≤ m := by omega
      have hsum : m - y = q - (sumL (F.take k) + y) := by rw [hm.out]; omega
      replace hsum := Lib.hid hsum
      have d1 : decide ((k : Int) < (n : Int)) = true := decide_eq_true (by omega)
      have d1' : (k : Int) < (n : Int) := by omega
      have htl : (F.take k).length ≤ 250 := by rw [List.length_take]; omega
      have w1' : wrap64 (m - y) = m - y := IntWalk.wrap64_in _ ⟨by omega, by omega⟩
      have h1 := one_lit wr y 2 (by omega) (by omega)
      have hb1 : g ≤ (wr.alloc (.cells #[.int .i64 y] 2)).heap.size := by simp; omega
      have ba := Lib.hid (hB.out.alloc hw (.cells #[.int .i64 y] 2))
      replace h1 := Lib.hid h1
      by_cases hmx : m < x
      · obtain rfl : y = m := by omega
        have d2 : decide (y < x) = true := decide_eq_true hmx
        clear hy
        go_wp2_with (at_builtin; refine wpList_onto (by rfl) (.tmp 22) (.tmp 24) 26 (by rfl) g i0 Try.underlying26 hi0 hz0 hz1 hz2 _ _ (by rfl) (hR.out.alloc _) _ 1 1 [y] (by rfl) h1.out (fun e => by cases e) (by omega) hb1 ?_)
        intro v3 w3 r3 g3 o3
        rw [← hnx.out] at r3
        have B3 := Lib.hid (ba.out.grown g3 hb1 (fun q hq => (Row.lt hR.out hq).1))
        replace r3 := Lib.hid r3
        clear g3 o3
        go_wp2_with fail
        go_roundw
        case rel => exact ⟨k + 1, y - y, by go_num, by go_num, by omega, Lib.hid (by rw [hst.out, ← hsum.out]), by omega, by omega, r3, B3⟩
        case measure => simp [intOf]; omega
      · obtain rfl : y = x := by omega
        have d2 : decide (m < y) = false := decide_eq_false hmx
        clear hy
        go_wp2_with (at_builtin; refine wpList_onto (by rfl) (.tmp 22) (.tmp 24) 26 (by rfl) g i0 Try.underlying26 hi0 hz0 hz1 hz2 _ _ (by rfl) (hR.out.alloc _) _ 1 1 [y] (by rfl) h1.out (fun e => by cases e) (by omega) hb1 ?_)
        intro v3 w3 r3 g3 o3
        rw [← hnx.out] at r3
        have B3 := Lib.hid (ba.out.grown g3 hb1 (fun q hq => (Row.lt hR.out hq).1))
        replace r3 := Lib.hid r3
        clear g3 o3
        go_wp2_with fail
        go_roundw
        case rel => exact ⟨k + 1, m - y, by go_num, by go_num, by omega, Lib.hid (by rw [hst.out, ← hsum.out]), by omega, by omega, r3, B3⟩
        case measure => simp [intOf]; omega
    · obtain rfl : k = n := by omega
      have d1 : decide ((k : Int) < (k : Int)) = false := by simp
      have et : F.take k = F := List.take_of_length_le (by omega)
      rw [et] at hR
      replace et := Lib.hid et
      go_wp2_with fail
      go_ret
      exact ⟨_, rfl, by rw [hg.out]; exact hR.out, by rw [hg.out]; exact hB.out⟩

set_option maxRecDepth 100000 in
set_option maxHeartbeats 1600000 in
theorem RShare_any (A : Option Addr) (n cap : Nat) (xs : List Int) (q : Int) (w : World) (hn : n ≤ 9223372036854775807) (q1 : -9223372036854775808 ≤ q) (q2 : q ≤ 9223372036854775807) (h : Hid (Holds w A n xs)) :
    Calls Try.prog 21 #[.slice A n cap, .int .i64 q] w (Gave w (shareL xs q)) := by
  have HR := Lib.hid (RRight_any A n cap xs q w hn q1 q2 h)
  cases hr : rightL xs q with
  | false =>
    rw [share_no hr]
    rw [hr] at HR
    clear hr
    go_enter Try.func21, Try.ntmps21
    go_wp2_with fail
    refine HR.out.mono ?_
    rintro e w1 ⟨rfl, rfl⟩
    go_wp2_with fail
    go_ret
    exact ⟨_, rfl, row_nil _ _, Below.refl _ _⟩
  | true =>
    rw [share_yes hr]
    have HF := Lib.hid (RFill_any A n cap xs q w h hr)
    rw [hr] at HR
    clear hr
    go_enter Try.func21, Try.ntmps21
    go_wp2_with fail
    refine HR.out.mono ?_
    rintro e w1 ⟨rfl, rfl⟩
    go_wp2_with fail
    refine HF.out.mono ?_
    rintro e w2 ⟨v, rfl, r2, b2⟩
    replace r2 := Lib.hid r2
    replace b2 := Lib.hid b2
    go_wp2_with fail
    go_ret
    exact ⟨_, rfl, r2.out, b2.out⟩
end Go.Proofs.Ytabogoonbapjiaa
