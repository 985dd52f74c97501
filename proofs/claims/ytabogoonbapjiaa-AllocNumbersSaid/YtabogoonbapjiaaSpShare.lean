/-
  The program's shares in two parts: Share.
-/
import Derived.Test.YtabogoonbapjiaaSp
import Derived.Test.YtabogoonbapjiaaSpLeaf
import Derived.Deep.RegionHeld3
import Derived.Deep.Cut
namespace Go.Proofs.Ytabogoonbapjiaa
open Go.RowKit
set_option linter.unusedVariables false
set_option linter.unusedSimpArgs false

theorem slice_from {w : World} {A : Option Addr} {n cap : Nat} {xs : List Int} (h : Holds w A n xs) (hcap : n ≤ cap) {k m : Nat} (hm : k + m = n) : ∃ A2, (if cap = k then A else A.map (fun x => x.add k)) = A2 ∧ Holds w A2 m (xs.drop k) := by
  refine ⟨_, rfl, by rw [List.length_drop, h.1]; omega, fun x hx => h.2.1 x (List.mem_of_mem_drop hx), fun hn => ?_⟩
  obtain ⟨b, off, e, hc⟩ := h.2.2 (by omega)
  refine ⟨b, off + k, by rw [if_neg (by omega), e]; simp [WideShapes.add_plain], fun j hj => ?_⟩
  rw [Nat.add_assoc, hc (k + j) (by omega)]
  simp [List.getD]

set_option maxRecDepth 100000 in
set_option maxHeartbeats 3200000 in
theorem SShare_any (A : Option Addr) (n cap : Nat) (xs : List Int) (part least q : Int) (w : World) (hn : n ≤ 9223372036854775807) (hcap : n ≤ cap) (p1 : -9223372036854775808 ≤ part) (p2 : part ≤ 9223372036854775807) (m1 : -9223372036854775808 ≤ least) (m2 : least ≤ 9223372036854775807) (q1 : -9223372036854775808 ≤ q) (q2 : q ≤ 9223372036854775807) (h : Hid (Holds w A n xs)) :
    Calls Try.prog 18 #[.slice A n cap, .int .i64 part, .int .i64 least, .int .i64 q] w (Gave w (splitL xs part least q)) := by
  have HR := FRight_any A n cap xs q w hn q1 q2 h
  cases hr : rightL xs q with
  | false =>
    rw [split_no (by rw [hr]; rfl)]
    rw [hr] at HR
    replace HR := Lib.hid HR
    clear hr
    go_enter Try.func18, Try.ntmps18
    go_wp2_with fail
    refine HR.out.mono ?_
    rintro e w1 ⟨rfl, rfl⟩
    go_wp2_with fail
    go_ret
    exact ⟨_, rfl, row_nil _ _, Below.refl _ _⟩
  | true =>
  rw [hr] at HR
  replace HR := Lib.hid HR
  by_cases ha : part < 0
  · have da : decide (part < 0) = true := decide_eq_true ha
    rw [split_no (by rw [hr, decide_eq_false (show ¬ 0 ≤ part by omega)]; rfl)]
    clear hr
    go_enter Try.func18, Try.ntmps18
    go_wp2_with fail
    refine HR.out.mono ?_
    rintro e w1 ⟨rfl, rfl⟩
    go_wp2_with fail
    go_ret
    exact ⟨_, rfl, row_nil _ _, Below.refl _ _⟩
  have da : decide (part < 0) = false := decide_eq_false ha
  by_cases hb : 100 < part
  · have db : decide (100 < part) = true := decide_eq_true hb
    rw [split_no (by rw [hr, decide_eq_false (show ¬ part ≤ 100 by omega)]; simp)]
    clear hr
    go_enter Try.func18, Try.ntmps18
    go_wp2_with fail
    refine HR.out.mono ?_
    rintro e w1 ⟨rfl, rfl⟩
    go_wp2_with fail
    go_ret
    exact ⟨_, rfl, row_nil _ _, Below.refl _ _⟩
  have db : decide (100 < part) = false := decide_eq_false hb
  by_cases hm : least < 1
  · have dm : decide (least < 1) = true := decide_eq_true hm
    rw [split_no (by rw [hr, decide_eq_false (show ¬ 1 ≤ least by omega)]; simp)]
    clear hr
    go_enter Try.func18, Try.ntmps18
    go_wp2_with fail
    refine HR.out.mono ?_
    rintro e w1 ⟨rfl, rfl⟩
    go_wp2_with fail
    go_ret
    exact ⟨_, rfl, row_nil _ _, Below.refl _ _⟩
  have dm : decide (least < 1) = false := decide_eq_false hm
  rw [split_yes hr (by omega) (by omega) (by omega)]
  obtain ⟨Ka, F, eK, eF, k1, k2, hRK, lF, fF, hcut⟩ := split_facts (l := xs) (part := part) (least := least) hr (by omega) (by omega) (by omega)
  obtain ⟨hl, hx, hq, hqs⟩ := (right_iff xs q).1 hr
  have hlen := h.out.1
  have hbd := (sumL_bound xs 1000000 (fun x hh => by have := hx x hh; omega)).2
  have hq3 : q ≤ 250000000 := by omega
  rw [hlen] at hl lF fF
  obtain ⟨Z, hZ⟩ : ∃ Z, splitB xs part least q = Z := ⟨_, rfl⟩
  rw [hZ] at hcut ⊢
  have iF : ∀ x ∈ F, I64 x := fun x hh => by
    obtain ⟨j, hj, rfl⟩ := mem_getD hh
    have := fF j (by omega)
    exact ⟨by omega, by omega⟩
  have HSh := Share_any q part 100 w hq q2 (by omega) p2 (by omega) (by omega)
  rw [← early_eq, eK] at HSh
  rw [pick_yes (fitB_yes (x := Ka) (by omega) (by omega)), fitB_yes (x := Ka) (by omega) (by omega)] at HSh
  replace HSh := Lib.hid HSh
  have wr1 : IntKind.i64.wrap (q - Ka) = q - Ka := IntWalk.i64_in _ (by omega)
  have w2r : wrap64 (q - Ka) = q - Ka := IntWalk.wrap64_in _ ⟨by omega, by omega⟩
  have r1 : 0 ≤ q - Ka := by omega
  have r2 : q - Ka ≤ 250000000 := by omega
  replace eK := Lib.hid eK
  replace hZ := Lib.hid hZ
  replace hcut := Lib.hid hcut
  replace fF := Lib.hid fF
  replace iF := Lib.hid iF
  clear hr hx hqs hbd ha hb
  obtain ⟨g, hg⟩ : ∃ g, w.heap.size = g := ⟨_, rfl⟩
  replace hg := Lib.hid hg
  go_enter Try.func18, Try.ntmps18
  go_wp2_with fail
  refine HR.out.mono ?_
  rintro e w1 ⟨rfl, rfl⟩
  clear HR
  go_wp2_with fail
  refine HSh.out.mono ?_
  rintro e w2 ⟨rfl, d, rfl⟩
  clear HSh
  have HF := FShare_any A n cap xs Ka (w1.drewN d) hn (by omega) (by omega) h
  rw [share_yes hRK, eF] at HF
  replace HF := Lib.hid HF
  go_wp2_with fail
  refine HF.out.mono ?_
  rintro e w3 ⟨v, rfl, r3, b3⟩
  obtain ⟨A1, c1, rfl, h1, -, l1, x1, at1⟩ := r3.slice iF.out
  rw [lF] at h1 l1 ⊢
  have R1 : Hid (Row w3 g (.slice A1 n c1) F) := Lib.hid (by rw [← hg.out, ← lF]; exact r3)
  have B1 : Hid (Below g w1 w3) := Lib.hid (by rw [← hg.out]; exact (below_drewN (Below.refl w1.heap.size w1) d).trans b3)
  have hA1 := Lib.hid (show Holds w3 A n xs from Holds.below (w := w1.drewN d) h.out b3)
  replace h1 := Lib.hid h1
  have ow : Hid (∀ k, (Value.slice A1 n c1).ownBlock = some k → g ≤ k ∧ k < w3.heap.size) := Lib.hid (fun k e => R1.out.lt e)
  have HU := Lib.hid (UsedUp_any A n cap xs A1 c1 F w3 (by omega) hA1 h1)
  clear HF r3 b3 at1 hRK
  go_wp2_with fail
  refine HU.out.mono ?_
  rintro e w4' ⟨c, d2, rfl, hc, hy, hne, rfl⟩
  clear HU
  obtain ⟨D, E, eD, lD, iD, ePl, lE, mE, lZ, z0, zn⟩ := hcut.out c (by omega) (fun j hj => hy j hj) (fun hh => hne (by omega))
  clear hy hne
  rw [hlen] at lD lE lZ zn
  obtain ⟨m, hcm⟩ : ∃ m, n - c = m := ⟨_, rfl⟩
  rw [hcm] at lD lE zn
  have hsum : c + m = n := by omega
  obtain ⟨w4, hw4⟩ : ∃ w4, w3.drewN d2 = w4 := ⟨_, rfl⟩
  have R4 : Hid (Row w4 g (.slice A1 n c1) F) := Lib.hid (by rw [← hw4]; exact R1.out)
  have B4 : Hid (Below g w1 w4) := Lib.hid (by rw [← hw4]; exact below_drewN B1.out d2)
  have hA4 : Hid (Holds w4 A n xs) := Lib.hid (by rw [← hw4]; exact hA1.out)
  have h4 : Hid (Holds w4 A1 n F) := Lib.hid (by rw [← hw4]; exact h1.out)
  replace ow : Hid (∀ k, (Value.slice A1 n c1).ownBlock = some k → g ≤ k ∧ k < w4.heap.size) := Lib.hid (by rw [← hw4]; exact ow.out)
  rw [hw4]
  clear hw4 R1 B1 hA1 h1
  obtain ⟨L1, eL1, hL1⟩ := slice_from hA4.out hcap hsum
  obtain ⟨L2, eL2, hL2⟩ := slice_from h4.out l1 hsum
  have hci : (0 : Int) ≤ (c : Int) := by omega
  have hci2 : (c : Int) ≤ (n : Int) := by omega
  have fD : Hid (∀ k, k < m → 0 ≤ (F.drop c).getD k 0 ∧ (F.drop c).getD k 0 ≤ (xs.drop c).getD k 0 ∧ (xs.drop c).getD k 0 ≤ 1000000) := Lib.hid (fun k hk => by
    rw [getD_drop', getD_drop']; exact fF.out (c + k) (by omega))
  have S0 : Hid (Below w4.heap.size w4 w4) := Lib.hid (Below.refl _ _)
  replace hL1 := Lib.hid hL1
  replace hL2 := Lib.hid hL2
  replace ePl := Lib.hid ePl
  replace iD := Lib.hid iD
  replace mE := Lib.hid mE
  replace zn := Lib.hid zn
  replace z0 := Lib.hid z0
  replace eD := Lib.hid eD
  replace hcut := Lib.hid True.intro
  clear hcut
  go_upto_region 6 with (fail)
  refine wp_region_held_drew (S := fun W => Below w4.heap.size w4 W) (by kernel_rfl) S0.out.drew (fun hHeld => ?_)
  refine wpAnyH_take (i := 0) (v := .slice A n cap) rfl (by kernel_rfl) (by kernel_rfl) (by kernel_rfl) (fun _ _ _ h => h) (Or.inl ⟨by kernel_rfl, fun W hSw => ?_⟩) (by assumption) ?_
  · (try dsimp only at hSw)
    go_simp
  (try simp only [Act.put, List.setIfInBounds_toArray, List.set_cons_zero, List.set_cons_succ])
  refine wpAnyH_take (i := 1) (v := .int .i64 (c : Int)) rfl (by kernel_rfl) (by kernel_rfl) (by kernel_rfl) (fun _ _ _ h => h) (Or.inl ⟨by kernel_rfl, fun W hSw => ?_⟩) (by assumption) ?_
  · (try dsimp only at hSw)
    go_simp
  (try simp only [Act.put, List.setIfInBounds_toArray, List.set_cons_zero, List.set_cons_succ])
  refine wpAnyH_take (i := 2) (v := .slice L1 m (cap - c)) rfl (by kernel_rfl) (by kernel_rfl) (by kernel_rfl) (fun _ _ _ h => h) (Or.inl ⟨by kernel_rfl, fun W hSw => ?_⟩) (by assumption) ?_
  · (try dsimp only at hSw)
    go_simp
  (try simp only [Act.put, List.setIfInBounds_toArray, List.set_cons_zero, List.set_cons_succ])
  refine wpAnyH_take (i := 3) (v := .slice A1 n c1) rfl (by kernel_rfl) (by kernel_rfl) (by kernel_rfl) (fun _ _ _ h => h) (Or.inl ⟨by kernel_rfl, fun W hSw => ?_⟩) (by assumption) ?_
  · (try dsimp only at hSw)
    go_simp
  (try simp only [Act.put, List.setIfInBounds_toArray, List.set_cons_zero, List.set_cons_succ])
  refine wpAnyH_take (i := 4) (v := .int .i64 (c : Int)) rfl (by kernel_rfl) (by kernel_rfl) (by kernel_rfl) (fun _ _ _ h => h) (Or.inl ⟨by kernel_rfl, fun W hSw => ?_⟩) (by assumption) ?_
  · (try dsimp only at hSw)
    go_simp
  (try simp only [Act.put, List.setIfInBounds_toArray, List.set_cons_zero, List.set_cons_succ])
  refine wpAnyH_take (i := 5) (v := .slice L2 m (c1 - c)) rfl (by kernel_rfl) (by kernel_rfl) (by kernel_rfl) (fun _ _ _ h => h) (Or.inl ⟨by kernel_rfl, fun W hSw => ?_⟩) (by assumption) ?_
  · (try dsimp only at hSw)
    go_simp
  (try simp only [Act.put, List.setIfInBounds_toArray, List.set_cons_zero, List.set_cons_succ])
  refine wpAnyH_take (i := 7) (v := .int .i64 least) rfl (by kernel_rfl) (by kernel_rfl) (by kernel_rfl) (fun _ _ _ h => h) (Or.inl ⟨by kernel_rfl, fun W hSw => ?_⟩) (by assumption) ?_
  · (try dsimp only at hSw)
    go_simp
  (try simp only [Act.put, List.setIfInBounds_toArray, List.set_cons_zero, List.set_cons_succ])
  refine wpAnyH_take (i := 8) (v := .int .i64 q) rfl (by kernel_rfl) (by kernel_rfl) (by kernel_rfl) (fun _ _ _ h => h) (Or.inl ⟨by kernel_rfl, fun W hSw => ?_⟩) (by assumption) ?_
  · (try dsimp only at hSw)
    go_simp
  (try simp only [Act.put, List.setIfInBounds_toArray, List.set_cons_zero, List.set_cons_succ])
  refine wpAnyH_take (i := 9) (v := .int .i64 Ka) rfl (by kernel_rfl) (by kernel_rfl) (by kernel_rfl) (fun _ _ _ h => h) (Or.inl ⟨by kernel_rfl, fun W hSw => ?_⟩) (by assumption) ?_
  · (try dsimp only at hSw)
    go_simp
  (try simp only [Act.put, List.setIfInBounds_toArray, List.set_cons_zero, List.set_cons_succ])
  refine wpAnyH_take (i := 10) (v := .int .i64 (q - Ka)) rfl (by kernel_rfl) (by kernel_rfl) (by kernel_rfl) (fun _ _ _ h => h) (Or.inl ⟨by kernel_rfl, fun W hSw => ?_⟩) (by assumption) ?_
  · (try dsimp only at hSw)
    go_simp
  (try simp only [Act.put, List.setIfInBounds_toArray, List.set_cons_zero, List.set_cons_succ])
  refine wpAnyH_take (i := 13) (v := .int .i64 0) rfl (by kernel_rfl) (by kernel_rfl) (by kernel_rfl) (fun _ _ _ h => h) (Or.inl ⟨by kernel_rfl, fun W hSw => ?_⟩) (by assumption) ?_
  · (try dsimp only at hSw)
    go_simp
  (try simp only [Act.put, List.setIfInBounds_toArray, List.set_cons_zero, List.set_cons_succ])
  refine wpAnyH_ready (rs := [6]) (by kernel_rfl) (by simp) ?_
  refine AllReadyH.cons rfl (fun K hK => ?_) AllReadyH.nil
  go_simp
  have HL := SLeft_any L1 m (cap - c) (xs.drop c) L2 (c1 - c) (F.drop c) w4.drew (by omega) (Lib.hid (show Holds w4.drew L1 m (xs.drop c) from hL1.out)) (Lib.hid (show Holds w4.drew L2 m (F.drop c) from hL2.out)) fD
  rw [eD.out] at HL
  replace HL := Lib.hid HL
  refine HL.out.mono ?_
  rintro e w6 ⟨v, rfl, r6, b6⟩
  obtain ⟨D1, dc, rfl, hD, -, -, -, -⟩ := r6.slice iD.out
  rw [lD] at hD ⊢
  have z6 : Below w4.heap.size w4 w6 := S0.out.drew.trans b6
  replace hD := Lib.hid hD
  clear r6 b6 HL
  go_wp2_with fail
  refine hK.out _ _ z6 (fun hHeld => ?_)
  clear hK K
  (try simp only [Act.put, List.setIfInBounds_toArray, List.set_cons_zero, List.set_cons_succ])
  refine wpAnyH_ready (rs := [11]) (by kernel_rfl) (by simp) ?_
  refine AllReadyH.cons rfl (fun K hK => ?_) AllReadyH.nil
  go_simp
  have HP := PPlain_any D1 m dc D least (q - Ka) w6 (by omega) (by omega) (by omega) (by omega) (by omega) hD
  rw [ePl.out] at HP
  replace HP := Lib.hid HP
  refine HP.out.mono ?_
  rintro e w7 ⟨v, rfl, r7, b7⟩
  obtain ⟨E1, ec, rfl, hE, -, lec, -, atE⟩ := r7.slice (fun y hy => by have := mE.out y hy; exact ⟨by omega, by omega⟩)
  rw [lE] at hE lec ⊢
  have z7 : Below w4.heap.size w4 w7 := z6.trans (b7.mono z6.size)
  have sz6 := z6.size
  replace atE := Lib.hid atE
  replace hE := Lib.hid hE
  clear r7 b7 HP
  go_wp2_with fail
  refine hK.out _ _ z7 (fun hHeld => ?_)
  clear hK K
  (try simp only [Act.put, List.setIfInBounds_toArray, List.set_cons_zero, List.set_cons_succ])
  refine wpAnyH_take (i := 12) (v := .int .i64 (m : Int)) rfl (by kernel_rfl) (by kernel_rfl) (by kernel_rfl) (fun _ _ _ h => h) (Or.inl ⟨by kernel_rfl, fun W hSw => ?_⟩) (by assumption) ?_
  · (try dsimp only at hSw)
    go_simp
  (try simp only [Act.put, List.setIfInBounds_toArray, List.set_cons_zero, List.set_cons_succ])
  refine wpAnyH_done (by kernel_rfl) ?_ _
  (try simp only [List.getElem_toArray, List.getElem_cons_succ, List.getElem_cons_zero, Act.put, List.setIfInBounds_toArray, List.set_cons_zero, List.set_cons_succ])
  have R7 : Hid (Row w7 g (.slice A1 n c1) F) := Lib.hid (R4.out.below z7)
  have B7 : Hid (Below g w1 w7) := Lib.hid (B4.out.trans (z7.mono (by have q := B4.out.size; rw [hg.out] at q; exact q)))
  have nE : Hid (∀ ad, E1 = some ad → ¬ (Value.slice A1 n c1).ownBlock = some ad.block) := Lib.hid (fun ad e e2 => by
    have a := (atE.out ad e).1
    have b := (ow.out _ e2).2
    omega)
  clear z7 sz6 hHeld atE R4 B4 hA4 h4 hL1 hL2 S0 fD ePl iD eD hD z6 eL1 eL2
  go_wp2_with fail
  go_loopw [56] (fun i wr => ∃ (k : Nat), i = .int .i64 k ∧ k ≤ m ∧ Hid (Row wr g (.slice A1 n c1) (mixL Z F (c + k))) ∧ Hid (Only (fun k => (Value.slice A1 n c1).ownBlock = some k) w7 wr)) (fun i _ => m - (intOf i).toNat)
  case atStart => exact ⟨0, rfl, by omega, Lib.hid (by rw [Nat.add_zero, z0.out]; exact R7.out), Lib.hid (Only.refl _ _)⟩
  case round =>
    obtain ⟨k, rfl, hk, hRr, hO⟩ := hrel
    by_cases hlt : k < m
    · obtain ⟨t, ht⟩ : ∃ t, c + k = t := ⟨_, rfl⟩
      have tn : t < n := by omega
      have lM := mix_len (F := Z) (G := F) (n := n) (k := t) lZ lF (by omega)
      have zk := zn.out k hlt
      rw [ht] at hRr zk
      obtain ⟨ga, ca, ev, gb1, gb2, -, -, hfz, hcl⟩ := hRr.out.open' (by omega)
      rw [lM] at ev hcl
      injection ev with ev _ ev3
      subst ev; subst ev3
      have xa := hcl t tn
      rw [mix_get lZ lF tn] at xa
      have fz := hfz t
      have HC := hE.out.only hO.out (fun ad e => nE.out ad e)
      obtain ⟨b2, off2, rfl, hc2⟩ := HC.2.2 (by omega)
      have hcell2 := hc2 k hlt
      obtain ⟨y1, y2, y3⟩ := fF.out t tn
      obtain ⟨e1, e2⟩ := mE.out _ (getD_mem (show k < E.length by omega))
      have stp := mix_set (F := Z) (G := F) (n := n) (k := t) lZ lF tn
      rw [zk] at stp
      clear zk HC hc2 hcl hfz
      generalize F.getD t 0 = y at *
      generalize xs.getD t 0 = x at *
      generalize E.getD k 0 = z at *
      have rset := hRr.out.set (k := t) (by omega) (y + z)
      rw [stp] at rset
      have oset := hO.out.trans ((set_only wr ga t (.int .i64 (y + z))).mono (fun q _ e => by show some ga = some q; rw [e]))
      replace oset := Lib.hid oset
      replace rset : Hid (Row (wr.setCell ⟨ga, t, none⟩ (.int .i64 (y + z))) g (.slice (some ⟨ga, 0, none⟩) n c1) (mixL Z F (c + (k + 1)))) := Lib.hid (by rw [show c + (k + 1) = t + 1 by omega]; exact rset)
      have fold : (c : Int) + (k : Int) = (t : Int) := by omega
      have d1 : decide ((k : Int) < (m : Int)) = true := decide_eq_true (by omega)
      have d2 : (k : Int) < (m : Int) := by omega
      have d3 : (t : Int) < (n : Int) := by omega
      have wy : wrap64 (y + z) = y + z := IntWalk.wrap64_in _ ⟨by omega, by omega⟩
      replace stp := Lib.hid stp
      clear hRr hO ht lM hcm hsum eF lE lD hlen lF lZ
      go_wp2_with fail
      go_roundw
      case rel => exact ⟨k + 1, by go_num, by omega, rset, oset⟩
      case measure => simp [intOf]; omega
    · obtain rfl : k = m := by omega
      have d1 : decide ((k : Int) < (k : Int)) = false := by simp
      rw [hsum, mix_full lZ lF] at hRr
      have B8 := Lib.hid (B7.out.trans (hO.out.below (by have q := B7.out.size; rw [hg.out] at q; exact q) (fun q hq e => by have := (ow.out q e).1; omega)))
      go_wp2_with fail
      go_ret
      exact ⟨_, rfl, by rw [hg.out]; exact hRr.out, by rw [hg.out]; exact B8.out⟩
end Go.Proofs.Ytabogoonbapjiaa
