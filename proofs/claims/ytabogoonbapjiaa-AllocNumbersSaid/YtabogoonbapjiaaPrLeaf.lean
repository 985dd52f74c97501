/-
  Of the program's shares by size: right, left, add.
-/
import Derived.Test.YtabogoonbapjiaaPr
import Derived.Test.YtabogoonbapjiaaFiShare
import Derived.StillTailTactics
namespace Go.Proofs.Ytabogoonbapjiaa
open Go.RowKit
set_option linter.unusedVariables false
set_option linter.unusedSimpArgs false

set_option maxRecDepth 100000 in
set_option maxHeartbeats 800000 in
theorem PRight_any (A : Option Addr) (n cap : Nat) (xs : List Int) (least q : Int) (w : World) (hn : n ≤ 9223372036854775807) (q1 : -9223372036854775808 ≤ q) (q2 : q ≤ 9223372036854775807) (m1 : -9223372036854775808 ≤ least) (m2 : least ≤ 9223372036854775807) (h : Hid (Holds w A n xs)) :
    Calls Try.prog 25 #[.slice A n cap, .int .i64 least, .int .i64 q] w fun e w' => e = .returned (.bool (rightL xs q && decide (1 ≤ least))) ∧ w' = w := by
  have HR := FRight_any A n cap xs q w hn q1 q2 h
  obtain ⟨R, hR⟩ : ∃ R, rightL xs q = R := ⟨_, rfl⟩
  rw [hR] at HR ⊢
  clear hR
  replace HR := Lib.hid HR
  by_cases hm : 1 ≤ least
  · have d1 : decide (1 ≤ least) = true := decide_eq_true hm
    cases R
    all_goals
      rw [d1]
      go_enter Try.func25, Try.ntmps25
      go_wp2_with fail
      refine HR.out.mono ?_
      rintro e w1 ⟨rfl, rfl⟩
      go_wp2_with fail
      go_ret
      exact ⟨rfl, rfl⟩
  · have d1 : decide (1 ≤ least) = false := decide_eq_false hm
    cases R
    all_goals
      rw [d1]
      go_enter Try.func25, Try.ntmps25
      go_wp2_with fail
      refine HR.out.mono ?_
      rintro e w1 ⟨rfl, rfl⟩
      go_wp2_with fail
      go_ret
      exact ⟨rfl, rfl⟩

set_option maxRecDepth 100000 in
set_option maxHeartbeats 1600000 in
theorem Left_any (A : Option Addr) (n cap : Nat) (xs : List Int) (B : Option Addr) (cb : Nat) (bs : List Int) (w : World) (hn : n ≤ 250) (h : Hid (Holds w A n xs)) (hb : Hid (Holds w B n bs)) (hx : Hid (∀ k, k < n → 0 ≤ bs.getD k 0 ∧ bs.getD k 0 ≤ xs.getD k 0 ∧ xs.getD k 0 ≤ 1000000)) :
    Calls Try.prog 28 #[.slice A n cap, .slice B n cb] w (Gave w (posL (subZ xs bs))) := by
  have hlen := h.out.1
  have hlb := hb.out.1
  have hll : xs.length = bs.length := by omega
  have hsl : (subZ xs bs).length = n := by rw [subZ_len hll]; exact hlen
  have hget : ∀ k, k < n → (subZ xs bs).getD k 0 = xs.getD k 0 - bs.getD k 0 := fun k hk => subZ_get hll (by omega)
  obtain ⟨F, hF⟩ : ∃ F, subZ xs bs = F := ⟨_, rfl⟩
  rw [hF] at hsl ⊢
  simp only [hF] at hget
  have more : ∀ k, k < n → bs.getD k 0 < xs.getD k 0 → posL (F.take (k + 1)) = posL (F.take k) ++ [xs.getD k 0 - bs.getD k 0] := fun k hk hl => by
    rw [← hget k hk]; exact pos_more (by omega) (by rw [hget k hk]; omega)
  have skip : ∀ k, k < n → ¬ bs.getD k 0 < xs.getD k 0 → posL (F.take (k + 1)) = posL (F.take k) := fun k hk hl => pos_skip (by omega) (by rw [hget k hk]; omega)
  have few : ∀ k, (posL (F.take k)).length ≤ 250 := fun k => by have := pos_len (F.take k); rw [List.length_take] at this; omega
  replace more := Lib.hid more
  replace skip := Lib.hid skip
  replace few := Lib.hid few
  replace hF := Lib.hid hF
  clear hget
  obtain ⟨i0, hi0, hz0, hz1, hz2⟩ := info_parts info_num
  have R0 := Lib.hid (row_nil w w.heap.size)
  have B0 := Lib.hid (Below.refl w.heap.size w)
  obtain ⟨g, hg⟩ : ∃ g, w.heap.size = g := ⟨_, rfl⟩
  rw [hg] at R0 B0
  replace hg := Lib.hid hg
  go_enter Try.func28, Try.ntmps28
  go_wp2_with fail
  go_loopw [5, 10] (fun u i wr => ∃ (k : Nat), i = .int .i64 k ∧ k ≤ n ∧ Hid (Row wr g u (posL (F.take k))) ∧ Hid (Below g w wr)) (fun _ i _ => n - (intOf i).toNat)
  case atStart => exact ⟨0, rfl, by omega, Lib.hid (by rw [List.take_zero]; with_unfolding_all exact R0.out), B0⟩
  case round =>
    obtain ⟨k, rfl, hk, hR, hB⟩ := hrel
    by_cases hlt : k < n
    · have HW := h.out.below (hg.out ▸ hB.out)
      have HV := hb.out.below (hg.out ▸ hB.out)
      obtain ⟨b, off, rfl, hc⟩ := HW.2.2 (by omega)
      obtain ⟨b2, off2, rfl, hc2⟩ := HV.2.2 (by omega)
      have hcell := hc k hlt
      have hcell2 := hc2 k hlt
      have hw : g ≤ wr.heap.size := by rw [← hg.out]; exact hB.out.size
      obtain ⟨x1, x2, x3⟩ := hx.out k hlt
      have mk := more.out k hlt
      have sk := skip.out k hlt
      have fk := few.out k
      clear hc hc2 HW HV
      generalize xs.getD k 0 = x at *
      generalize bs.getD k 0 = y at *
      have d1 : decide ((k : Int) < (n : Int)) = true := decide_eq_true (by omega)
      have d1' : (k : Int) < (n : Int) := by omega
      by_cases hyx : y < x
      · have d2 : decide (y < x) = true := decide_eq_true hyx
        replace mk := Lib.hid (mk hyx)
        clear sk
        have w1' : wrap64 (x - y) = x - y := IntWalk.wrap64_in _ ⟨by omega, by omega⟩
        have h1 := one_lit wr (x - y) 2 (by omega) (by omega)
        have hb1 : g ≤ (wr.alloc (.cells #[.int .i64 (x - y)] 2)).heap.size := by simp; omega
        have ba := Lib.hid (hB.out.alloc hw (.cells #[.int .i64 (x - y)] 2))
        replace h1 := Lib.hid h1
        go_wp2_with (at_builtin; refine wpList_onto (by rfl) (.tmp 21) (.tmp 28) 26 (by rfl) g i0 Try.underlying26 hi0 hz0 hz1 hz2 _ _ (by rfl) (hR.out.alloc _) _ 1 1 [x - y] (by rfl) h1.out (fun e => by cases e) (by omega) hb1 ?_)
        intro v3 w3 r3 g3 o3
        rw [← mk.out] at r3
        have B3 := Lib.hid (ba.out.grown g3 hb1 (fun q hq => (Row.lt hR.out hq).1))
        replace r3 := Lib.hid r3
        clear g3 o3
        go_wp2_with fail
        go_roundw
        case rel => exact ⟨k + 1, by go_num, by omega, r3, B3⟩
        case measure => simp [intOf]; omega
      · have d2 : decide (y < x) = false := decide_eq_false hyx
        replace sk := Lib.hid (sk (by omega))
        clear mk
        go_wp2_with fail
        go_roundw
        case rel => exact ⟨k + 1, by go_num, by omega, by rw [sk.out]; exact hR, hB⟩
        case measure => simp [intOf]; omega
    · obtain rfl : k = n := by omega
      have d1 : decide ((k : Int) < (k : Int)) = false := by simp
      have et : F.take k = F := List.take_of_length_le (by omega)
      rw [et] at hR
      replace et := Lib.hid et
      go_wp2_with fail
      go_ret
      exact ⟨_, rfl, by rw [hg.out]; exact hR.out, by rw [hg.out]; exact hB.out⟩

set_option maxRecDepth 100000 in
set_option maxHeartbeats 1600000 in
theorem PAdd_any (A : Option Addr) (n cap : Nat) (xs : List Int) (S : Option Addr) (cs : Nat) (bs : List Int) (C : Option Addr) (m cm : Nat) (zs : List Int) (base : Nat) (w : World) (hn : n ≤ 250) (h : Hid (Holds w A n xs)) (hR : Hid (Row w base (.slice S n cs) bs)) (hlb : bs.length = n) (hC : Hid (Holds w C m zs))
    (hm : (posL (subZ xs bs)).length = m) (hx : Hid (∀ k, k < n → 0 ≤ bs.getD k 0 ∧ bs.getD k 0 ≤ xs.getD k 0 ∧ xs.getD k 0 ≤ 1000000)) (hz : Hid (∀ z ∈ zs, 0 ≤ z ∧ z ≤ 1000000))
    (nA : Hid (∀ ad, 0 < n → A = some ad → (Value.slice S n cs).ownBlock ≠ some ad.block)) (nC : Hid (∀ ad, 0 < m → C = some ad → (Value.slice S n cs).ownBlock ≠ some ad.block)) :
    Calls Try.prog 26 #[.slice A n cap, .slice S n cs, .slice C m cm] w fun e w' => e = .returned (.tuple #[]) ∧ Row w' base (.slice S n cs) (addZ bs (spreadL (subZ xs bs) zs)) ∧ Only (fun k => (Value.slice S n cs).ownBlock = some k) w w' := by
  have hlen := h.out.1
  have hll : xs.length = bs.length := by omega
  have hsl : (subZ xs bs).length = n := by rw [subZ_len hll]; exact hlen
  have hget : ∀ k, k < n → (subZ xs bs).getD k 0 = xs.getD k 0 - bs.getD k 0 := fun k hk => subZ_get hll (by omega)
  have hspl : bs.length = (spreadL (subZ xs bs) zs).length := by rw [spread_len]; omega
  have yes : ∀ k, k < n → bs.getD k 0 < xs.getD k 0 → (posL ((subZ xs bs).take k)).length < m ∧ (posL ((subZ xs bs).take (k + 1))).length = (posL ((subZ xs bs).take k)).length + 1 ∧ (addZ bs (spreadL (subZ xs bs) zs)).getD k 0 = bs.getD k 0 + zs.getD (posL ((subZ xs bs).take k)).length 0 := fun k hk hl => by
    have hp : 0 < (subZ xs bs).getD k 0 := by rw [hget k hk]; omega
    refine ⟨by rw [← hm]; exact pos_count (by omega) hp, by rw [pos_more (by omega) hp]; simp, ?_⟩
    rw [addZ_get hspl (by omega), spread_get _ _ _ (by omega), if_pos hp]
  have no : ∀ k, k < n → ¬ bs.getD k 0 < xs.getD k 0 → (posL ((subZ xs bs).take (k + 1))).length = (posL ((subZ xs bs).take k)).length ∧ (addZ bs (spreadL (subZ xs bs) zs)).getD k 0 = bs.getD k 0 := fun k hk hl => by
    have hp : ¬ 0 < (subZ xs bs).getD k 0 := by rw [hget k hk]; omega
    refine ⟨by rw [pos_skip (by omega) hp], ?_⟩
    rw [addZ_get hspl (by omega), spread_get _ _ _ (by omega), if_neg hp]; omega
  have hal : (addZ bs (spreadL (subZ xs bs) zs)).length = n := by rw [addZ_len hspl]; exact hlb
  have cnt0 : (posL ((subZ xs bs).take 0)).length = 0 := by rw [List.take_zero]; with_unfolding_all rfl
  have cntle : ∀ k, (posL ((subZ xs bs).take k)).length ≤ 250 := fun k => by have := pos_len ((subZ xs bs).take k); rw [List.length_take] at this; omega
  obtain ⟨cnt, hcnt⟩ : ∃ cnt : Nat → Nat, (fun k => (posL ((subZ xs bs).take k)).length) = cnt := ⟨_, rfl⟩
  have hc0 : ∀ k, (posL ((subZ xs bs).take k)).length = cnt k := fun k => by rw [← hcnt]
  simp only [hc0] at yes no cnt0 cntle
  obtain ⟨F, hF⟩ : ∃ F, addZ bs (spreadL (subZ xs bs) zs) = F := ⟨_, rfl⟩
  simp only [hF] at yes no hal ⊢
  have step := fun k hk => mix_set (F := F) (G := bs) (n := n) (k := k) hal hlb hk
  have same := fun k hk => mix_skip (F := F) (G := bs) (n := n) (k := k) hal hlb hk
  have look := fun k hk => mix_get (F := F) (G := bs) (n := n) (k := k) hal hlb hk
  have long := fun k hk => mix_len (F := F) (G := bs) (n := n) (k := k) hal hlb hk
  have R0 : Hid (Row w base (.slice S n cs) (mixL F bs 0)) := Lib.hid (by rw [mix_zero]; exact hR.out)
  have fin : Hid (mixL F bs n = F) := Lib.hid (mix_full hal hlb)
  have hzl : m = zs.length := hC.out.1.symm
  replace yes := Lib.hid yes
  replace no := Lib.hid no
  replace step := Lib.hid step
  replace same := Lib.hid same
  replace look := Lib.hid look
  replace long := Lib.hid long
  replace hF := Lib.hid hF
  replace hm := Lib.hid hm
  replace cnt0 := Lib.hid cnt0.symm
  replace cntle := Lib.hid cntle
  replace hzl := Lib.hid hzl
  clear hget hspl hc0 hcnt hsl hll
  have O0 := Lib.hid (Only.refl (fun k => (Value.slice S n cs).ownBlock = some k) w)
  go_enter Try.func26, Try.ntmps26
  go_wp2_with fail
  go_loopw [6, 11] (fun u i wr => ∃ (k c : Nat), u = .int .i64 c ∧ i = .int .i64 k ∧ k ≤ n ∧ Hid (c = cnt k) ∧ Hid (Row wr base (.slice S n cs) (mixL F bs k)) ∧ Hid (Only (fun k => (Value.slice S n cs).ownBlock = some k) w wr)) (fun _ i _ => n - (intOf i).toNat)
  case atStart => exact ⟨0, 0, rfl, rfl, by omega, cnt0, R0, O0⟩
  case round =>
    obtain ⟨k, c, rfl, rfl, hk, hcc, hRr, hO⟩ := hrel
    by_cases hlt : k < n
    · have lM := long.out k hk
      obtain ⟨ga, ca, ev, gb1, gb2, -, -, hfz, hcl⟩ := hRr.out.open' (by omega)
      rw [lM] at ev hcl
      injection ev with ev _ ev3
      subst ev; subst ev3
      have hown : ∀ q, q ≠ ga → ¬ (fun q => (Value.slice (some ⟨ga, 0, none⟩) n cs).ownBlock = some q) q := fun q hq e => by
        have e1 : some ga = some q := e
        injection e1 with e1
        exact hq e1.symm
      have HW := h.out.only hO.out (fun ad e => hown _ (fun e2 => nA.out ad (by omega) e (by rw [e2]; rfl)))
      obtain ⟨b, off, rfl, hc⟩ := HW.2.2 (by omega)
      have hcell := hc k hlt
      have xa := hcl k hlt
      rw [look.out k hlt] at xa
      have fz := hfz k
      obtain ⟨x1, x2, x3⟩ := hx.out k hlt
      have yk := yes.out k hlt
      have nk := no.out k hlt
      have stp := step.out k hlt
      have sam := same.out k hlt
      have hcb := cntle.out k
      rw [← hcc.out] at yk nk hcb
      have hzc : ∀ j, j < m → 0 ≤ zs.getD j 0 ∧ zs.getD j 0 ≤ 1000000 := fun j hj => hz.out _ (getD_mem (by rw [← hzl.out]; exact hj))
      clear hc HW hcl hfz
      generalize xs.getD k 0 = x at *
      generalize bs.getD k 0 = y at *
      have d1 : decide ((k : Int) < (n : Int)) = true := decide_eq_true (by omega)
      have d1' : (k : Int) < (n : Int) := by omega
      by_cases hyx : y < x
      · obtain ⟨y1, y2, y3⟩ := yk hyx
        have HC := hC.out.only hO.out (fun ad e => hown _ (fun e2 => nC.out ad (by omega) e (by rw [e2]; rfl)))
        obtain ⟨b2, off2, rfl, hc2⟩ := HC.2.2 (by omega)
        have hcell2 := hc2 c y1
        obtain ⟨z1, z2⟩ := hzc c y1
        rw [y3] at stp
        generalize zs.getD c 0 = z at *
        have d2 : decide (y < x) = true := decide_eq_true hyx
        have d4 : (c : Int) < (m : Int) := by omega
        have wr1 : IntKind.i64.wrap (y + z) = y + z := IntWalk.i64_in _ (by omega)
        have rset := (show Row wr.drew base _ (mixL F bs k) from hRr.out).set (k := k) (by omega) (y + z)
        rw [stp] at rset
        have oset := (hO.out.drewN 1).trans ((set_only wr.drew ga k (.int .i64 (y + z))).mono (fun q _ e => by show some ga = some q; rw [e]))
        replace rset := Lib.hid rset
        replace oset := Lib.hid oset
        replace y2 := Lib.hid (show c + 1 = cnt (k + 1) from y2.symm)
        clear hc2 HC yk nk y3 stp sam hzc
        go_wp2_with fail
        go_still_tail 10, (by kernel_rfl)
        have fz2 : wr.drew.frozen? ⟨ga, k, none⟩ = false := fz
        have xa2 : wr.drew.cell? ⟨ga, k, none⟩ = some (.int .i64 y) := xa
        change wpList _ _ _ _ _ wr.drew
        generalize wr.drew = wd at *
        clear fz xa hcell hcell2
        go_wp2_with fail
        go_roundw
        case rel => exact ⟨k + 1, c + 1, by go_num, by go_num, by omega, y2, rset, oset⟩
        case measure => simp [intOf]; omega
      · obtain ⟨n1, n2⟩ := nk (by omega)
        have d2 : decide (y < x) = false := decide_eq_false hyx
        have sm := Lib.hid (sam n2)
        replace n1 := Lib.hid (show c = cnt (k + 1) from n1.symm)
        clear yk nk stp sam hzc n2
        go_wp2_with fail
        go_roundw
        case rel => exact ⟨k + 1, c, by go_num, by go_num, by omega, n1, by rw [sm.out]; exact hRr, hO⟩
        case measure => simp [intOf]; omega
    · obtain rfl : k = n := by omega
      have d1 : decide ((k : Int) < (k : Int)) = false := by simp
      rw [fin.out] at hRr
      go_wp2_with fail
      go_end0
      exact ⟨rfl, hRr.out, hO.out⟩
end Go.Proofs.Ytabogoonbapjiaa
