/-
  The program's quantities and first top order, of a list of orders.
-/
import Derived.Test.YtabogoonbapjiaaAl
import Derived.Test.YtabogoonbapjiaaFiShare
import Derived.Laws.Tables
import Derived.Deep.Cut
namespace Go.Proofs.Ytabogoonbapjiaa
open Go.RowKit
set_option linter.unusedVariables false
set_option linter.unusedSimpArgs false

theorem HV.lt {α : Type} {fm : Fmt α} {w : World} {A : Option Addr} {n : Nat} {l : List α} (h : HV fm w A n l) {j : Nat} {x : α} (hx : l[j]? = some x) (hk : 0 < fm.k) : ∀ ad, A = some ad → ad.block < w.heap.size := by
  intro ad e
  obtain ⟨b, off, e2, hc⟩ := h.2 j x hx
  obtain ⟨u, hu⟩ : ∃ u, (fm.f x)[0]? = some u := ⟨_, List.getElem?_eq_getElem (by rw [fm.len]; exact hk)⟩
  rw [e] at e2
  injection e2 with e2
  subst e2
  have := World.block_lt_of_cell? w _ (hc 0 u hu)
  exact this
set_option maxRecDepth 100000 in
set_option maxHeartbeats 1600000 in
theorem AQty_any (A : Option Addr) (n cap : Nat) (L : List Or) (w : World) (hn : n ≤ 1000000) (h : Hid (HV fO w A n L)) (hok : Hid (OkO L)) :
    Calls Try.prog 19 #[.slice A n cap] w (Gave w (qtys L)) := by
  obtain ⟨i0, hi0, hz0, hz1, hz2⟩ := info_parts info_num
  have hlen := h.out.1
  have hF2 := qtys_len L
  rw [hlen] at hF2
  have hget : Hid (∀ k x, L[k]? = some x → (qtys L).getD k 0 = x.n) := Lib.hid (fun k x hx => qtys_get hx)
  have hex : Hid (∀ k, k < n → ∃ x, L[k]? = some x) := Lib.hid (fun k hk => or_at (by omega))
  obtain ⟨F, hF⟩ : ∃ F, qtys L = F := ⟨_, rfl⟩
  rw [hF] at hF2 hget ⊢
  replace hF := Lib.hid hF
  replace hlen := Lib.hid hlen
  go_enter Try.func19, Try.ntmps19
  go_wp2_with (at_make; refine wpList_make_full _ (by rfl) (.tmp 7) (.tmp 7) 26 (by rfl) w.heap.size 2 i0 (.int .i64 0) 1 Try.underlying26 hi0 hz0 hz1 .i64 .i64 _ _ n (by rfl) (by rfl) rfl rfl (by rw [hz2]; omega) (by unfold maxLen; omega) (Nat.le_refl _) ?_)
  intro w2 r2 g2
  have R2 := Lib.hid (row_made r2)
  have B2 : Hid (Below w.heap.size w w2) := Lib.hid ((Below.refl _ w).grown g2 (Nat.le_refl _) (fun k e => by cases e))
  have hAg : Hid (∀ ad, A = some ad → 0 < n → ad.block < w.heap.size) := Lib.hid (fun ad e h0 => by
    obtain ⟨x, hx⟩ := hex.out 0 h0
    exact h.out.lt hx (by decide) ad e)
  obtain ⟨g, hg⟩ : ∃ g, w.heap.size = g := ⟨_, rfl⟩
  rw [hg] at R2 B2 hAg
  replace hg := Lib.hid hg
  clear r2 g2
  go_wp2_with fail
  rw [hg.out]
  go_loopw [11] (fun i wr => ∃ (k : Nat), i = .int .i64 k ∧ k ≤ n ∧ Hid (Row wr g (.slice (some ⟨g, 0, none⟩) n n) (curL F n k)) ∧ Hid (Below g w wr)) (fun i _ => n - (intOf i).toNat)
  case atStart => exact ⟨0, rfl, by omega, by rw [cur_zero]; exact R2, B2⟩
  case round =>
    clear R2 B2
    obtain ⟨k, rfl, hk, hR, hB⟩ := hrel
    by_cases hlt : k < n
    · have hcl := cur_len hF2 hk
      have hnx := cur_set hF2 hlt
      obtain ⟨g', cap', e', -, hgw, hcc, hcm, hfz, hcl2⟩ := hR.out.open' (by omega)
      rw [hcl] at e' hcl2
      injection e' with e1 e2 e3
      injection e1 with e1
      injection e1 with e1
      subst e1; subst e3
      obtain ⟨x, hx⟩ := hex.out k hlt
      have HW := h.out.below (hg.out ▸ hB.out)
      obtain ⟨b, off, rfl, c0, c1, c2, c3, c4⟩ := HW.atO hx
      have hne := hAg.out _ rfl (by omega)
      have hgx := hget.out k x hx
      rw [hgx] at hnx
      have hOx := hok.out.at' hx
      obtain ⟨n1, n2⟩ := hOx.n
      obtain ⟨xi, xs, xp, xn, xt⟩ := x
      simp only at c0 c1 c2 c3 c4 hnx n1 n2
      replace hx := Lib.hid hx
      have d1 : decide ((k : Int) < (n : Int)) = true := decide_eq_true (by omega)
      have d1' : (k : Int) < (n : Int) := by omega
      obtain ⟨ga, ega⟩ : ∃ ga, wr.heap.size = ga := ⟨_, rfl⟩
      obtain ⟨wa, ewa⟩ : ∃ wa, wr.alloc (.cells #[.int .i64 xi, .int .i64 xs, .int .i64 xp, .int .i64 xn, .bool xt] 23) = wa := ⟨_, rfl⟩
      have hba : Hid (wa.heap[ga]? = some (.cells #[.int .i64 xi, .int .i64 xs, .int .i64 xp, .int .i64 xn, .bool xt] 23 (0, 0))) := Lib.hid (by rw [← ewa, ← ega]; exact heap_alloc_new wr _)
      have hRa : Row wa g (.slice (some ⟨g, 0, none⟩) n n) (curL F n k) := by rw [← ewa]; exact hR.out.alloc _
      have hBa : Below g w wa := by rw [← ewa]; exact hB.out.alloc (by omega) _
      obtain ⟨g', cap', e', -, hgw2, -, -, hfz2, hcl3⟩ := hRa.open' (by omega)
      rw [hcl] at e' hcl3
      injection e' with e1 e2 e3
      injection e1 with e1
      injection e1 with e1
      subst e1; subst e3
      have hfk := hfz2 k
      have hck := hcl3 k hlt
      have hRs := hRa.set (k := k) (by omega) xn
      rw [hnx] at hRs
      have hBs : Below g w (wa.setCell ⟨g, k, none⟩ (.int .i64 xn)) := hBa.trans ((set_only wa g k (.int .i64 xn)).below (by have := hBa.size; rw [hg.out] at this; omega) (fun j hj e => by omega))
      replace hRs := Lib.hid hRs
      replace hBs := Lib.hid hBs
      have q3 : wa.cell? ⟨ga, 3, none⟩ = some (.int .i64 xn) := by rw [Lib.cell_of_heap hba.out]; rfl
      replace ewa := Lib.hid ewa
      replace ega := Lib.hid ega
      clear hcl2 hcl3 hfz hfz2 hnx hcl hRa hBa hgx hOx HW
      go_upto_region 5 with (fail)
      rw [ewa.out, ega.out]
      go_wp2_with fail
      go_roundw
      case rel => exact ⟨k + 1, by go_num, by omega, hRs, hBs⟩
      case measure => simp [intOf]; omega
    · obtain rfl : k = n := by omega
      have d1 : decide ((k : Int) < (k : Int)) = false := by simp
      go_wp2_with fail
      go_ret
      exact ⟨_, rfl, by rw [cur_full (by omega)] at hR; rw [hg.out]; exact hR.out, by rw [hg.out]; exact hB.out⟩
set_option maxRecDepth 100000 in
set_option maxHeartbeats 1600000 in
theorem ATop_any (A : Option Addr) (n cap : Nat) (L : List Or) (w : World) (hn : n ≤ 1000000) (h : Hid (HV fO w A n L)) :
    Calls Try.prog 20 #[.slice A n cap] w fun e w' => e = .returned (.int .i64 (topO L)) ∧ Below w.heap.size w w' := by
  have hlen := h.out.1
  have hex : Hid (∀ k, k < n → ∃ x, L[k]? = some x) := Lib.hid (fun k hk => or_at (by omega))
  have hfull : Hid (L.take n = L) := Lib.hid (List.take_of_length_le (by omega))
  obtain ⟨r, hr⟩ : ∃ r, topO L = r := ⟨_, rfl⟩
  have hend : Hid (topO (L.take n) = -1 → r = -1) := Lib.hid (fun e => by rw [← hr, ← hfull.out]; exact e)
  have hat : Hid (∀ k x, topO (L.take k) = -1 → L[k]? = some x → x.t = true → r = (k : Int)) := Lib.hid (fun k x a b c => by rw [← hr]; exact topO_at a b c)
  have hst : Hid (∀ k x, topO (L.take k) = -1 → L[k]? = some x → x.t = false → topO (L.take (k + 1)) = -1) := Lib.hid (fun k x a b c => by rw [topO_step b, a, if_pos (by decide), if_neg (by rw [c]; decide)])
  rw [hr]
  clear hr
  replace hlen := Lib.hid hlen
  go_enter Try.func20, Try.ntmps20
  go_wp2_with fail
  go_loopw [7] (fun i wr => ∃ (k : Nat), i = .int .i64 k ∧ k ≤ n ∧ Hid (topO (L.take k) = -1) ∧ Hid (Below w.heap.size w wr)) (fun i _ => n - (intOf i).toNat)
  case atStart => exact ⟨0, rfl, by omega, Lib.hid (by rw [List.take_zero]; exact topO_nil), Lib.hid (Below.refl _ _)⟩
  case round =>
    obtain ⟨k, rfl, hk, hT, hB⟩ := hrel
    by_cases hlt : k < n
    · obtain ⟨x, hx⟩ := hex.out k hlt
      have HW := h.out.below hB.out
      obtain ⟨b, off, rfl, c0, c1, c2, c3, c4⟩ := HW.atO hx
      obtain ⟨xi, xs, xp, xn, xt⟩ := x
      simp only at c0 c1 c2 c3 c4
      replace hx := Lib.hid hx
      have d1 : decide ((k : Int) < (n : Int)) = true := decide_eq_true (by omega)
      have d1' : (k : Int) < (n : Int) := by omega
      obtain ⟨ga, ega⟩ : ∃ ga, wr.heap.size = ga := ⟨_, rfl⟩
      obtain ⟨wa, ewa⟩ : ∃ wa, wr.alloc (.cells #[.int .i64 xi, .int .i64 xs, .int .i64 xp, .int .i64 xn, .bool xt] 23) = wa := ⟨_, rfl⟩
      have hba : Hid (wa.heap[ga]? = some (.cells #[.int .i64 xi, .int .i64 xs, .int .i64 xp, .int .i64 xn, .bool xt] 23 (0, 0))) := Lib.hid (by rw [← ewa, ← ega]; exact heap_alloc_new wr _)
      have hBa : Hid (Below w.heap.size w wa) := Lib.hid (by rw [← ewa]; exact hB.out.alloc hB.out.size _)
      have q4 : wa.cell? ⟨ga, 4, none⟩ = some (.bool xt) := by rw [Lib.cell_of_heap hba.out]; rfl
      replace ewa := Lib.hid ewa
      replace ega := Lib.hid ega
      clear HW
      cases xt with
      | true =>
        have e := hat.out k _ hT.out hx.out rfl
        replace e := Lib.hid e
        go_upto_region 4 with (fail)
        rw [ewa.out, ega.out]
        go_wp2_with fail
        go_ret
        exact ⟨by rw [e.out]; rfl, hBa.out⟩
      | false =>
        have e := hst.out k _ hT.out hx.out rfl
        replace e := Lib.hid e
        go_upto_region 4 with (fail)
        rw [ewa.out, ega.out]
        go_wp2_with fail
        go_roundw
        case rel => exact ⟨k + 1, by go_num, by omega, e, hBa⟩
        case measure => simp [intOf]; omega
    · obtain rfl : k = n := by omega
      have d1 : decide ((k : Int) < (k : Int)) = false := by simp
      have e := hend.out hT.out
      replace e := Lib.hid e
      go_wp2_with fail
      go_ret
      exact ⟨by rw [e.out]; rfl, hB.out⟩
end Go.Proofs.Ytabogoonbapjiaa
