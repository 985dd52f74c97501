/-
  The walk of LevelOrders.
-/
import Derived.Test.YtcfmnmknbebfnaaLvQr
import Derived.Test.YtcfmnmknbebfnaaLvSame
import Derived.Test.YtcfmnmknbebfnaaLvRefused

import Derived.Deep.CutBlock
import Derived.Deep.RegionLaw
import Derived.BigRegion
import Derived.Deep.QuietTactic
import Derived.BigQuiet
namespace Go.Proofs.Ytcfmnmknbebfnaa
open Go.RowKit
set_option linter.unusedVariables false
set_option linter.unusedSimpArgs false

theorem count_all (U : List Bool) : U.count true + U.count false = U.length := by
  induction U with
  | nil => rfl
  | cons b U ih => cases b <;> simp [List.count_cons] <;> omega
theorem listO_at {st : St} {k : Nat} {l : List En} (h : st.Q[k]? = some l) : listO st (k : Int) = l := by
  have hk := (List.getElem?_eq_some_iff.1 h).1
  unfold listO
  rw [if_pos (by omega), Int.toNat_natCast, List.getD_eq_getElem?_getD, h]; rfl
/-- An arena with i queues and no order. -/
def opN (R i : Nat) : St := ⟨List.replicate R false, List.replicate i []⟩
theorem opN_next (R i : Nat) : (opN R i).opened = opN R (i + 1) := by
  unfold opN St.opened
  rw [List.replicate_succ']
structure Og (B c g R i : Nat) (F : Nat → Prop) (w wx : World) : Prop where
  ar : AR B c F (opN R i) wx
  far : ∀ k, F k → k ≠ g
  blk : wx.heap[g]? = some (.cells #[.slice none 0 0, .slice none 0 0, .slice none 0 0] 38 (0, 0))
  bel : Below B w wx
  gB : B ≤ g
theorem Og.step {B c g R i : Nat} {F F' : Nat → Prop} {w wx wy : World} (h : Og B c g R i F w wx) (a : AR B c F' (opN R i).opened wy) (o : Only F wx wy) (n : ∀ k, F' k → F k ∨ wx.heap.size ≤ k) : Og B c g R (i + 1) F' w wy := by
  have gl := (Array.getElem?_eq_some_iff.1 h.blk).1
  have hg := h.gB
  refine ⟨by rw [← opN_next]; exact a, fun k hk e => ?_, (o.block g gl (fun e => h.far g e rfl)).trans h.blk, h.bel.trans (o.below (by omega) (fun k hk e => by have := (h.ar.lt e).1; omega)), hg⟩
  rcases n k hk with e2 | e2
  · exact h.far k e2 e
  · omega
theorem Og.ow {B c g R : Nat} {F : Nat → Prop} {w wx : World} (h : Og B c g R 3 F w wx) : Ow B c F g wx.heap.size R (opN R 3) (opN R 3).Q [.slice none 0 0, .slice none 0 0, .slice none 0 0] w wx :=
  ⟨h.ar, rfl, rfl, List.length_replicate, Qr.zero h.blk (Array.getElem?_eq_some_iff.1 h.blk).1, fun k hk => ⟨(h.ar.lt hk).2, h.far k hk⟩, h.bel, Nat.le_refl _, h.gB⟩
theorem build_entry3 (i n : Int) (t : Bool) : ∀ W : World, (Instr.build 40 #[(1, .int .i64 i), (2, .int .i64 n), (3, .bool t)]).run Try.prog W = .ok (.agg #[.int .i64 0, .int .i64 i, .int .i64 n, .bool t]) W := fun W => by kernel_rfl
theorem split_en {l : List En} {m : Nat} (h : m < l.length) : ∃ A e C, l = A ++ e :: C ∧ A.length = m := ⟨l.take m, l[m], l.drop (m + 1), by rw [← List.drop_eq_getElem_cons h, List.take_append_drop], by rw [List.length_take]; omega⟩
def After (B c : Nat) (F : Nat → Prop) (g base R : Nat) (w : World) (nv : Value) (wy : World) : Prop := ∃ (st : St) (V : List Value) (m : Nat), nv = .int .i64 m ∧ m ≤ R ∧ Hid (m = st.U.count true) ∧ Hid (Ow B c F g base R st st.Q V w wy)
def Made (w : World) (xb : Nat) (i n : Int) (t : Bool) (xv : Value) (wy : World) : Prop := xv = .pointer (some ⟨xb, 0, none⟩) ∧ Hid (Below w.heap.size w wy) ∧ Hid (wy.heap[xb]? = some (.cells #[.int .i64 0, .int .i64 i, .int .i64 n, .bool t] 40 (0, 0)))
set_option maxRecDepth 100000 in
set_option maxHeartbeats 8000000 in
theorem Orders_walk (room : Int) (A : Option Addr) (n cap : Nat) (L : List Ask) (w : World) (hr : I64 room) (hA : Hid (HK w A n L)) (hAt : Hid (∀ ad, A = some ad → ad.block < w.heap.size)) (hO : Hid (OkK L)) (p1 : n ≤ cap) (p2 : cap ≤ 9223372036854775807) :
    Calls Try.prog 5 #[.int .i64 room, .slice A n cap] w fun e w' => e = .returned (.bool true) ∧ Below w.heap.size w w' := by
  obtain ⟨i0, hi0, hz0, hz1, hz2⟩ := info_parts info_entry
  have HW := Within_any room 20 w (by omega) hr.1 hr.2
  have hk := withinN_le room 20
  obtain ⟨k, ek⟩ : ∃ k, withinN room 20 = k := ⟨_, rfl⟩
  rw [ek] at HW hk
  replace HW := Lib.hid HW
  obtain ⟨R, eR⟩ : ∃ R, 1 + k = R := ⟨_, rfl⟩
  have eRi : Hid (1 + (k : Int) = (R : Int)) := Lib.hid (by omega)
  have hR : R ≤ 21 := by omega
  have hR1 : 1 ≤ R := by omega
  obtain ⟨B, eB⟩ : ∃ B, w.heap.size = B := ⟨_, rfl⟩
  clear ek hr eR
  go_enter Try.func5, Try.ntmps5
  go_wp2_with fail
  refine HW.out.mono ?_
  rintro e w ⟨rfl, rfl⟩
  replace eB := Lib.hid eB
  go_upto_region 2 with (fail)
  rw [eRi.out]
  go_wp2_with fail
  refine (New_yes R w hR1 (by omega)).mono ?_
  rintro e w1 ⟨c, F0, rfl, a1, b1⟩
  rw [eB.out] at a1 b1
  have s1 : Hid (B ≤ w1.heap.size) := Lib.hid (by rw [← eB.out]; exact b1.size)
  replace b1 := Lib.hid b1
  replace a1 := Lib.hid a1
  go_upto_region 6 with (fail)
  obtain ⟨w2, e2⟩ : ∃ X, w1.alloc (.cells #[.slice none 0 0, .slice none 0 0, .slice none 0 0] 38) = X := ⟨_, rfl⟩
  obtain ⟨g, eg⟩ : ∃ g, w1.heap.size = g := ⟨_, rfl⟩
  rw [e2, eg]
  have hg0 : Hid (Og B c g R 0 F0 w w2) := Lib.hid (by
    have bel2 : Below w1.heap.size w1 w2 := by rw [← e2]; exact (Below.refl _ _).alloc (Nat.le_refl _) _
    have := s1.out
    exact ⟨a1.out.below bel2, fun k hk e => by have := (a1.out.lt hk).2; omega, by rw [← e2, ← eg]; exact heap_alloc_new w1 _, b1.out.trans (bel2.mono this), by omega⟩)
  clear e2 eg a1 b1 s1
  go_wp2_with fail
  go_loopw [8] (fun iv wz => ∃ (i : Nat) (F : Nat → Prop), iv = .int .i64 i ∧ i ≤ 3 ∧ Hid (Og B c g R i F w wz)) (fun iv _ => (3 - intOf iv).toNat)
  case atStart => exact ⟨0, F0, rfl, by omega, hg0⟩
  case round =>
    clear hg0
    obtain ⟨i, F, rfl, hi, hG⟩ := hrel
    by_cases hlt : i < 3
    · have dk : decide ((i : Int) < 3) = true := decide_eq_true (by omega)
      have HO := Open_any B c F (opN R i) wr (Lib.hid hG.out.ar) (by show (List.replicate i _).length ≤ _; simp; omega)
      rw [show (((opN R i).Q.length : Nat) : Int) = (i : Int) by show (((List.replicate i _).length : Nat) : Int) = _; rw [List.length_replicate]] at HO
      have zi : ((i : Int) != (i : Int)) = false := by simp
      replace HO := Lib.hid HO
      go_wp2_with fail
      refine HO.out.mono ?_
      rintro e w5 ⟨F', rfl, a5, o5, n5⟩
      have hG5 := Lib.hid (hG.out.step a5 o5 n5)
      clear a5 o5 n5 HO
      go_wp2_with fail
      go_roundw
      case rel => exact ⟨i + 1, F', by go_num, by omega, hG5⟩
      case measure => simp [intOf]; omega
    · obtain rfl : i = 3 := by omega
      obtain ⟨base, eb⟩ : ∃ s, wr.heap.size = s := ⟨_, rfl⟩
      have hM0 := hG.out.ow
      rw [eb] at hM0
      have h00 : Hid ((0 : Nat) = (opN R 3).U.count true) := Lib.hid (by show 0 = (List.replicate R false).count true; rw [List.count_replicate]; rfl)
      obtain ⟨st0, est⟩ : ∃ s, opN R 3 = s := ⟨_, rfl⟩
      rw [est] at hM0 h00
      replace hM0 := Lib.hid hM0
      clear est eb hG hlt
      go_wp2_with fail
      rename World => wo
      go_loopw [9, 10] (fun nv iv wr => ∃ (i : Nat) (st : St) (V : List Value) (m : Nat), iv = .int .i64 i ∧ nv = .int .i64 m ∧ i ≤ n ∧ i ≤ 60 ∧ m ≤ R ∧ Hid (m = st.U.count true) ∧ Hid (Ow B c F g base R st st.Q V w wr)) (fun _ iv _ => (60 - intOf iv).toNat)
      case atStart => exact ⟨0, st0, _, 0, rfl, rfl, by omega, by omega, by omega, h00, hM0⟩
      case round =>
        clear hM0 h00
        obtain ⟨i, st, V, m, rfl, rfl, hi1, hi2, hmR, hct, hM⟩ := hrel
        by_cases hc : i < n ∧ i < 60
        · obtain ⟨c1, c2⟩ := hc
          have d1 : decide ((i : Int) < (n : Int)) = true := decide_eq_true (by omega)
          have d1' : decide (i < n) = true := decide_eq_true c1
          have d2 : decide ((i : Int) < 60) = true := decide_eq_true (by omega)
          have hi60 : Hid (I64 (i : Int)) := Lib.hid ⟨by omega, by omega⟩
          obtain ⟨x, hx⟩ : ∃ x, L[i]? = some x := ⟨_, List.getElem?_eq_getElem (by rw [hA.out.1]; exact c1)⟩
          obtain ⟨xk, xq, xs, xi, xn⟩ := hO.out x (List.mem_of_getElem? hx)
          have hKX := hA.out.below (w' := wr) (by rw [eB.out]; exact hM.out.bel)
          obtain ⟨b, off, rfl, e0, e1, e2, e3, e4, e5⟩ := hKX.2 i x hx
          obtain ⟨kq, qq0, qs, qi, qn, qt⟩ := x
          simp only at xk xq xs xi xn e0 e1 e2 e3 e4 e5
          have hbb : Hid (b < wr.heap.size) := Lib.hid (by
            have h1 : b < w.heap.size := hAt.out _ rfl
            have h2 := eB.out; have h3 := hM.out.gB; have h4 := hM.out.qs.gb; have h5 := hM.out.bsz; omega)
          have HQ := Within_any qq0 2 wr (by omega) xq.1 xq.2
          have hkk := withinN_le qq0 2
          obtain ⟨kk, ekk⟩ : ∃ v, withinN qq0 2 = v := ⟨_, rfl⟩
          rw [ekk] at HQ hkk
          have hk3 : (kk : Int) < 3 := by omega
          have hk0 : (0 : Int) ≤ (kk : Int) := by omega
          replace HQ := Lib.hid HQ
          obtain ⟨l, hl⟩ : ∃ l, st.Q[kk]? = some l := ⟨_, List.getElem?_eq_getElem (by rw [hM.out.qlen]; omega)⟩
          obtain ⟨v, hv⟩ : ∃ v, V[kk]? = some v := ⟨_, List.getElem?_eq_getElem (by rw [hM.out.qs.len, hM.out.qlen]; omega)⟩
          have hnl : l.length ≤ 4096 := by have h1 := hM.out.ar.ok.short hl; have h2 := hM.out.ar.room; omega
          obtain ⟨nl, enl⟩ : ∃ n, l.length = n := ⟨_, rfl⟩
          rw [enl] at hnl
          have hre := hM.out.qs.rows kk v l hv hl
          obtain ⟨Av, cv, rfl, -, hcv, hcv2, hcv0⟩ := hre.slice0
          rw [enl] at hv hre hcv
          obtain ⟨m0, y0⟩ := hM.out.qs.cell hv
          replace hre := Lib.hid hre
          replace hv := Lib.hid hv
          replace hl := Lib.hid hl
          replace enl := Lib.hid enl
          replace hcv0 := Lib.hid hcv0
          clear hx hKX ekk
          go_wp2_with fail
          refine HQ.out.mono ?_
          rintro e wr ⟨rfl, rfl⟩
          clear HQ
          go_upto_region 16 with (fail)
          go_cut [71] from 42 to 240 (fun tv wy => ∃ tb : Bool, tv = .bool tb ∧ (tb = false → 1 ≤ nl) ∧ wr = wy)
          case first =>
            cases hmod : (kq.tmod 2 == 0) with
            | true =>
              go_wp2_with fail
              go_meet
              exact ⟨true, rfl, fun h => (by cases h), rfl⟩
            | false =>
              by_cases h0 : nl = 0
              · have dz : ((nl : Int) == 0) = true := by rw [h0]; rfl
                go_wp2_with fail
                go_meet
                exact ⟨true, rfl, fun h => (by cases h), rfl⟩
              · have dz : ((nl : Int) == 0) = false := by simpa using h0
                go_wp2_with fail
                go_meet
                exact ⟨false, rfl, fun _ => by omega, rfl⟩
          case rest =>
            obtain ⟨tb, rfl, htb, ew⟩ := hcut
            subst ew
            go_upto_if 71 with (fail)
            go_cut [9] from 42 to 240 (fun nv wy => After B c F g base R w nv wy)
            case first =>
              cases tb with
              | true => as_aux_lemma =>
                have HW9 := Lib.hid (fun W => Within_any qn 9 W (by omega) xn.1 xn.2)
                have hv9 := withinN_le qn 9
                obtain ⟨v9, ev9⟩ : ∃ v, withinN qn 9 = v := ⟨_, rfl⟩
                rw [ev9] at HW9 hv9
                clear ev9
                obtain ⟨xb, exb⟩ : ∃ x, wr.heap.size = x := ⟨_, rfl⟩
                have hbl : b < wr.drew.heap.size := hbb.out
                have z0 : (fun W : World => W.cell? ⟨b, off + i * 6 + 4, none⟩ = some (.int .i64 qn) ∧ W.cell? ⟨b, off + i * 6 + 5, none⟩ = some (.bool qt)) wr.drew := ⟨e4, e5⟩
                have zB : ∀ o : Obj, (fun W : World => W.cell? ⟨b, off + i * 6 + 4, none⟩ = some (.int .i64 qn) ∧ W.cell? ⟨b, off + i * 6 + 5, none⟩ = some (.bool qt)) (wr.drew.alloc o) := fun o => ⟨(World.cell?_alloc_lt _ _ _ hbl).trans e4, (World.cell?_alloc_lt _ _ _ hbl).trans e5⟩
                have zC : ∀ o : Obj, (fun W : World => W.cell? ⟨b, off + i * 6 + 4, none⟩ = some (.int .i64 qn) ∧ W.cell? ⟨b, off + i * 6 + 5, none⟩ = some (.bool qt)) (wr.alloc o).drew := fun o => ⟨(World.cell?_alloc_lt wr _ _ hbb.out).trans e4, (World.cell?_alloc_lt wr _ _ hbb.out).trans e5⟩
                simp only at z0 zB zC
                have HP := Lib.hid (fun (W : World) (h : AR B c F st W) => Push_any B c F st (kk : Int) (i : Int) (1 + (v9 : Int)) qt W (Lib.hid h) (by have := hM.out.qlen; omega) hi60 ⟨by omega, by omega⟩)
                have hpu := Lib.hid (pushO_at hl.out (i : Int) (n := 1 + (v9 : Int)) qt (by omega) (by omega))
                have hpk := Lib.hid (fun j (h : st.U[j]? = some false) => (hM.out.ar.ok).pushed (q := kk) (l := l) (e := ⟨j, (i : Int), 1 + (v9 : Int), qt⟩) hl.out h (by show 1 ≤ 1 + (v9 : Int); omega) (by show 1 + (v9 : Int) ≤ 1000000; omega) hi60.out)
                have hbe := build_entry3 (i : Int) (1 + (v9 : Int)) qt
                have hwr : IntKind.i64.wrap (1 + (v9 : Int)) = 1 + (v9 : Int) := IntWalk.i64_in _ (by omega)
                go_upto_region 17 with (fail)
                go_cut [12] from 42 to 240 (fun xv wy => Made wr xb (i : Int) (1 + (v9 : Int)) qt xv wy)
                case first => as_aux_lemma =>
                  clear e0 e1 e2 e3
                  go_region_held3 (fun W : World => W.cell? ⟨b, off + i * 6 + 4, none⟩ = some (.int .i64 qn) ∧ W.cell? ⟨b, off + i * 6 + 5, none⟩ = some (.bool qt)) (first | with_reducible assumption | with_reducible exact z0 | with_reducible exact zB _ | with_reducible exact zC _) ((go_at_call 14; refine (HW9.out _).mono ?_; rintro e w1 ⟨rfl, rfl⟩))
                  all_goals
                    go_wp2_with fail
                    go_meet
                    exact ⟨rfl, Lib.hid (by have h := (Below.refl wr.heap.size wr).alloc (Nat.le_refl _) (.cells #[.int .i64 0, .int .i64 (i : Int), .int .i64 (1 + (v9 : Int)), .bool qt] 40); exact ⟨h.os, h.tape, h.output, h.size, h.block⟩), Lib.hid (by rw [← exb]; exact heap_alloc_new wr _)⟩
                case rest =>
                  rename World => wy
                  obtain ⟨rfl, bX, cX⟩ := hcut
                  have MX := Lib.hid (hM.out.below bX.out)
                  have hVx : Hid (∀ (j : Nat) (v : Value) (q : Nat), V[j]? = some v → v.ownBlock = some q → q < xb) := Lib.hid (fun j v q hv hq => by have := (hM.out.qs.own hv hq).2; omega)
                  have hbx : Hid (base ≤ xb) := Lib.hid (by have := hM.out.bsz; omega)
                  have hFx : Hid (∀ k, F k → k < xb) := Lib.hid (fun k hk => by have := (hM.out.fb k hk).1; have := hM.out.bsz; omega)
                  obtain ⟨⟨y0a, y1a, y2a, y3a⟩, ⟨fX, -, -, -⟩⟩ := row4 cX.out
                  clear e0 e1 e2 e3 e4 e5 z0 zB zC hbl hbb HW9 hbe m0 y0 exb bX
                  rcases hpu.out with ⟨elo, ep⟩ | ⟨j, hj, ep⟩
                  · have HPx := HP.out wy MX.out.ar
                    rw [ep] at HPx
                    simp only at HPx
                    have hmf : m = R := by rw [hct.out, low_full elo]; exact MX.out.len
                    have dn : decide ((m : Int) < (R : Int)) = false := decide_eq_false (by omega)
                    have dn' : decide (m < R) = false := decide_eq_false (by omega)
                    replace HPx := Lib.hid HPx
                    clear ep elo hmf
                    go_wp2_with fail
                    refine HPx.out.mono ?_
                    rintro e w7 ⟨rfl, a7, o7⟩
                    have M7 := Lib.hid (MX.out.step a7 o7 MX.out.qlen MX.out.len)
                    clear a7 o7 HPx y0a y1a y2a y3a fX
                    go_wp2_with fail
                    go_meet
                    exact ⟨st, V, m, rfl, hmR, hct, M7⟩
                  · have HPx := HP.out wy MX.out.ar
                    rw [ep] at HPx
                    simp only at HPx
                    have hmf : m < R := by rw [hct.out, ← MX.out.len]; exact low_room hj
                    have dn : decide ((m : Int) < (R : Int)) = true := decide_eq_true (by omega)
                    have dn' : decide (m < R) = true := decide_eq_true hmf
                    have hj2 : j < R := by rw [← MX.out.len]; exact (List.getElem?_eq_some_iff.1 hj).1
                    obtain ⟨stN, esN⟩ : ∃ s, st.pushed kk j l ⟨j, (i : Int), 1 + (v9 : Int), qt⟩ = s := ⟨_, rfl⟩
                    rw [esN] at HPx
                    have hUN : Hid (stN.U = st.U.set j true) := Lib.hid (by rw [← esN]; rfl)
                    have hQN : Hid (stN.Q = st.Q.set kk (l ++ [⟨j, (i : Int), 1 + (v9 : Int), qt⟩])) := Lib.hid (by rw [← esN]; rfl)
                    replace HPx := Lib.hid HPx
                    replace hj := Lib.hid hj
                    clear ep esN
                    go_wp2_with fail
                    refine HPx.out.mono ?_
                    rintro e w7 ⟨rfl, a7, o7⟩
                    have M7 := Lib.hid (MX.out.step a7 o7 (st' := stN) (by rw [hQN.out, List.length_set]; exact MX.out.qlen) (by rw [hUN.out, List.length_set]; exact MX.out.len))
                    have C7 : w7.heap[xb]? = some (.cells #[.int .i64 0, .int .i64 (i : Int), .int .i64 (1 + (v9 : Int)), .bool qt] 40 (0, 0)) := (o7.block xb (Array.getElem?_eq_some_iff.1 cX.out).1 (fun e => by have := hFx.out _ e; omega)).trans cX.out
                    clear y0a y1a y2a y3a fX a7 o7 HPx
                    obtain ⟨⟨y0a, y1a, y2a, y3a⟩, ⟨fX, -, -, -⟩⟩ := row4 C7
                    replace C7 := Lib.hid C7
                    go_upto_region 23 with (fail)
                    obtain ⟨W8, eW8⟩ : ∃ W, w7.setCell ⟨xb, 0, none⟩ (.int .i64 (j : Int)) = W := ⟨_, rfl⟩
                    rw [eW8]
                    have M8 : Hid (Ow B c F g base R stN st.Q V w W8) := Lib.hid (by rw [← eW8]; exact M7.out.far hbx.out hVx.out)
                    have C8 : W8.heap[xb]? = some (.cells #[.int .i64 (j : Int), .int .i64 (i : Int), .int .i64 (1 + (v9 : Int)), .bool qt] 40 (0, 0)) := by rw [← eW8]; exact heap_setCell_same w7 xb 0 _ _ _ C7.out
                    clear y0a y1a y2a y3a fX eW8 C7 M7 hVx hFx hbx hpu hpk HP
                    obtain ⟨⟨y0a, y1a, y2a, y3a⟩, ⟨fX, -, -, -⟩⟩ := row4 C8
                    replace C8 := Lib.hid C8
                    obtain ⟨vk, evk⟩ : ∃ v, Value.slice Av nl cv = v := ⟨_, rfl⟩
                    have hv2 := hv.out
                    rw [evk] at hv2
                    obtain ⟨m0, y0⟩ := M8.out.qs.cell hv2
                    have hre8 := M8.out.qs.rows kk vk l hv2 hl.out
                    have R1 : W8.ownsRow base 40 4 vk nl (rowsN l) := by have h := hre8; unfold RE at h; rwa [enl.out] at h
                    have R2 : Hid ((W8.alloc (.cells #[.int .i64 (j : Int), .int .i64 (i : Int), .int .i64 (1 + (v9 : Int)), .bool qt] 40)).ownsRow base 40 4 vk nl (rowsN l)) := Lib.hid (R1.alloc _)
                    have hgt : Hid (g < W8.heap.size) := Lib.hid (by have h1 := M8.out.bsz; have h2 := M8.out.qs.gb; omega)
                    have vg : Hid (vk.ownBlock ≠ some g) := Lib.hid (fun e => by have h1 := (M8.out.qs.own hv2 e).1; have h2 := M8.out.qs.gb; omega)
                    have hb8 : Hid (base ≤ W8.heap.size) := Lib.hid M8.out.bsz
                    replace hv2 := Lib.hid hv2
                    have mA : (W8.drew.alloc (.cells #[.int .i64 (j : Int), .int .i64 (i : Int), .int .i64 (1 + (v9 : Int)), .bool qt] 40)).heap[g]? = W8.heap[g]? := heap_alloc_old W8.drew _ _ hgt.out
                    have zD : ∀ {w4 : World}, ((W8.drew.alloc (.cells #[.int .i64 (j : Int), .int .i64 (i : Int), .int .i64 (1 + (v9 : Int)), .bool qt] 40)).grownBy w4 vk.ownBlock) → (w4.cell? ⟨g, kk, none⟩ = some vk ∧ w4.frozen? ⟨g, kk, none⟩ = false) := fun {w4} h => by
                      have e := (h.block g (by rw [World.size_alloc]; have := hgt.out; show g < W8.drew.heap.size + 1; exact Nat.lt_succ_of_lt this) (fun e => vg.out e.symm)).trans mA
                      exact ⟨(World.cell?_of_block (a := ⟨g, kk, none⟩) e).trans m0, (World.frozen?_of_block (a := ⟨g, kk, none⟩) e).trans y0⟩
                    have zE : (W8.drew.alloc (.cells #[.int .i64 (j : Int), .int .i64 (i : Int), .int .i64 (1 + (v9 : Int)), .bool qt] 40)).cell? ⟨g, kk, none⟩ = some vk := (World.cell?_of_block (a := ⟨g, kk, none⟩) mA).trans m0
                    have zE2 : ({ heap := W8.drew.heap.push (.cells #[.int .i64 (j : Int), .int .i64 (i : Int), .int .i64 (1 + (v9 : Int)), .bool qt] 40), tape := W8.tape, drawn := W8.drawn + 1, os := W8.drew.os, output := W8.drew.output } : World).cell? ⟨g, kk, none⟩ = some vk := zE
                    have m0' : W8.drew.cell? ⟨g, kk, none⟩ = some vk := m0
                    have y0x : W8.drew.cell? ⟨xb, 0, none⟩ = some (.int .i64 (j : Int)) := y0a
                    have y1x : W8.drew.cell? ⟨xb, 1, none⟩ = some (.int .i64 (i : Int)) := y1a
                    have y2x : W8.drew.cell? ⟨xb, 2, none⟩ = some (.int .i64 (1 + (v9 : Int))) := y2a
                    have y3x : W8.drew.cell? ⟨xb, 3, none⟩ = some (.bool qt) := y3a
                    have evk' := Lib.hid evk
                    replace mA := Lib.hid mA
                    replace hre8 := Lib.hid hre8
                    clear evk R1
                    go_region_law ((refine step_append_lies _ (by rfl) (.tmp 119) (.tmp 121) 37 (by rfl) base 40 i0 (.agg #[.int .i64 0, .int .i64 0, .int .i64 0, .bool false]) 4 32 Try.underlying37 hi0 hz0 hz1 hz2 rfl (by decide) vk nl _ (by rfl) R2.out ⟨W8.heap.size, 0, none⟩ 1 1 [.int .i64 (j : Int), .int .i64 (i : Int), .int .i64 (1 + (v9 : Int)), .bool qt] (by rfl) (by rfl) (World.news_of_block (heap_alloc_new W8 _)) (row_one_cell ⟨j, (i : Int), 1 + (v9 : Int), qt⟩) (by omega) (by unfold maxLen; omega) (by omega) (Nat.le_trans hb8.out (by simp)) (W8.heap.size + 1) (by simp) ?_; intro g4 cap4 w4 r4 g4' h4 l4; obtain ⟨m4, y4⟩ := zD g4'))
                    all_goals as_aux_lemma =>
                      obtain ⟨q8, o8⟩ := M8.out.qs.appended hb8.out hv2.out hl.out (l' := l ++ [⟨j, (i : Int), 1 + (v9 : Int), qt⟩]) (n' := nl + 1) (by unfold RE; rw [rowsN_app, rowsN_one, List.length_append, enl.out]; exact r4) g4' h4
                      have M9 := M8.out.turn q8 o8 (by rw [List.length_set]; exact M8.out.three)
                      rw [← hQN.out] at M9
                      replace M9 := Lib.hid M9
                      have hct9 : Hid (m + 1 = stN.U.count true) := Lib.hid (by rw [hUN.out, count_set _ _ hj.out, ← hct.out])
                      clear zE zE2 zD m0 m0' y0 y0x y1x y2x y3x y0a y1a y2a y3a mA r4 g4' h4 l4 m4 y4 q8 o8
                      go_wp2_with fail
                      go_meet
                      exact ⟨stN, _, m + 1, by go_num, by omega, hct9, M9⟩
              | false =>
                have hn1 := htb rfl
                have hmm := withinN_le qs (nl - 1)
                have HWm := fun (W : World) => Within_any qs (nl - 1) W (by omega) xs.1 xs.2
                obtain ⟨mm, emm⟩ : ∃ v, withinN qs (nl - 1) = v := ⟨_, rfl⟩
                rw [emm] at hmm HWm
                rw [show ((nl - 1 : Nat) : Int) = (nl : Int) - 1 by omega] at HWm
                replace HWm := Lib.hid HWm
                have hmn : mm < nl := by omega
                have hmI : (mm : Int) < (nl : Int) := by omega
                have hm0 : (0 : Int) ≤ (mm : Int) := by omega
                obtain ⟨Aq, e, Cq, el, eA⟩ := split_en (l := l) (m := mm) (by rw [enl.out]; exact hmn)
                obtain ⟨es, ei, en, et⟩ := e
                have hj : Hid (l[mm]? = some ⟨es, ei, en, et⟩) := Lib.hid (by rw [el, ← eA]; simp)
                obtain ⟨f1, f2, -⟩ := hM.out.ar.ok.fit kk l ⟨es, ei, en, et⟩ hl.out (by rw [el]; simp)
                have hes := hM.out.ar.ok.lt (e := ⟨es, ei, en, et⟩) hl.out (by rw [el]; simp)
                rw [hM.out.len] at hes
                simp only at f1 f2 hes
                obtain ⟨r, er⟩ : ∃ r : Nat, en - 1 = (r : Int) := ⟨(en - 1).toNat, by omega⟩
                have hvb := withinN_le qn r
                have HWb := fun (W : World) => Within_any qn r W (by omega) xn.1 xn.2
                obtain ⟨vb, evb⟩ : ∃ v, withinN qn r = v := ⟨_, rfl⟩
                rw [evb] at hvb HWb
                rw [← er] at HWb
                replace HWb := Lib.hid HWb
                have hvr : (vb : Int) ≤ en - 1 := by omega
                have htk := takeO_at hM.out.ar.ok (k := kk) (A := Aq) (C := Cq) (e := ⟨es, ei, en, et⟩) (by rw [hl.out, el]) (n := 1 + (vb : Int)) (by omega) (by show 1 + (vb : Int) ≤ en; omega)
                simp only at htk
                have htq := takeO_q st (es : Int) (1 + (vb : Int))
                have HT := fun (W : World) (h : AR B c F st W) => Take_any B c F st (es : Int) (1 + (vb : Int)) W (Lib.hid h) (by have := hM.out.qlen; omega) ⟨by omega, by omega⟩
                obtain ⟨stN, esN⟩ : ∃ s, (if en - (1 + (vb : Int)) = 0 then st.gone kk es (Aq ++ Cq) else st.turned kk (Aq ++ ⟨es, ei, en - (1 + (vb : Int)), et⟩ :: Cq)) = s := ⟨_, rfl⟩
                have htk2 : takeO st (es : Int) (1 + (vb : Int)) = (0, stN) := by rw [htk, ← esN]; split <;> rfl
                rw [htk2] at HT htq
                simp only at HT htq
                have hqN := htq.1.trans hM.out.qlen
                have huN := htq.2.trans hM.out.len
                obtain ⟨bv, cap', ev, -, -, -, -⟩ := (hM.out.qs.rows kk _ l hv.out hl.out).at hj.out
                injection ev with ev1 ev2 ev3
                subst ev1
                subst ev3
                obtain ⟨⟨z0, y0v⟩, ⟨z1, z2⟩, z3⟩ := hM.out.at hv.out hl.out hj.out
                simp only at z1 z2
                have hMd := Lib.hid (fun q => hM.out.below (wy := wr.drewN q) ⟨rfl, rfl, rfl, Nat.le_refl _, fun _ _ => rfl⟩)
                have hel : Hid (l.set mm ⟨es, ei, en - (1 + (vb : Int)), et⟩ = Aq ++ ⟨es, ei, en - (1 + (vb : Int)), et⟩ :: Cq) := Lib.hid (by rw [el, ← eA, List.set_append_right _ _ (Nat.le_refl _), Nat.sub_self, List.set_cons_zero])
                have hws : IntKind.i64.wrap (en - (1 + (vb : Int))) = en - (1 + (vb : Int)) := IntWalk.i64_in _ (by omega)
                have hwb : IntKind.i64.wrap (1 + (vb : Int)) = 1 + (vb : Int) := IntWalk.i64_in _ (by omega)
                have hw1 : IntKind.i64.wrap (en - 1) = en - 1 := IntWalk.i64_in _ (by omega)
                have hUs : Hid (st.U[es]? = some true) := Lib.hid ((hM.out.ar.ok.use es).2 ⟨kk, l, ⟨es, ei, en, et⟩, hl.out, by rw [el]; simp, rfl⟩)
                replace HT := Lib.hid HT
                replace esN := Lib.hid esN
                replace el := Lib.hid el
                replace eA := Lib.hid eA
                replace hqN := Lib.hid hqN
                replace huN := Lib.hid huN
                clear ev2 er evb emm htk htk2 htq m0 y0 hre hcv0 e0 e1 e3 e5 xk xq xi
                go_upto_region 25 with (fail)
                go_quiet ((go_at_call 14; refine (HWm.out _).mono ?_; rintro e ux ⟨rfl, rfl⟩; exact ⟨rfl, _, rfl⟩))
                go_upto_region 26 with (fail)
                go_quiet ((go_at_call 14; refine (HWb.out _).mono ?_; rintro e ux ⟨rfl, rfl⟩; exact ⟨rfl, _, rfl⟩))
                go_wp2_with fail
                refine (HT.out _ (hMd.out _).ar).mono ?_
                rintro e w7 ⟨rfl, a7, o7⟩
                have M7 := Lib.hid ((hMd.out _).step a7 o7 (st' := stN) hqN.out huN.out)
                clear a7 o7 HT hMd HWm HWb z0 y0v z1 z2 z3 e2 e4 hM hbb
                obtain ⟨⟨z0, y0⟩, ⟨z1, z2⟩, z3⟩ := M7.out.at hv.out hl.out hj.out
                simp only at z1 z2
                have z3m := z3 (mm * 4 + 2)
                go_upto_region 29 with (fail)
                go_region
                obtain ⟨W1, eW⟩ : ∃ W, (w7.setCell ⟨bv, mm * 4 + 2, none⟩ (.int .i64 (en - (1 + (vb : Int))))).drew = W := ⟨_, rfl⟩
                rw [eW]
                have hbv := (M7.out.qs.own hv.out (k := bv) rfl).1
                have q8 := M7.out.qs.setN (m := 2) hv.out hl.out hj.out (by omega) (e' := ⟨es, ei, en - (1 + (vb : Int)), et⟩) (x := .int .i64 (en - (1 + (vb : Int)))) rfl
                have o8 : Only (fun b => b = g ∨ base ≤ b) w7 (w7.setCell ⟨bv, mm * 4 + 2, none⟩ (.int .i64 (en - (1 + (vb : Int))))) := (set_only w7 bv _ _).mono (fun b _ e => .inr (by rw [e]; exact hbv))
                have M8 := M7.out.turn (q8.below (w' := (w7.setCell ⟨bv, mm * 4 + 2, none⟩ (.int .i64 (en - (1 + (vb : Int))))).drew) ⟨rfl, rfl, rfl, Nat.le_refl _, fun _ _ => rfl⟩) ⟨o8.os, o8.tape, o8.output, o8.size, o8.block⟩ (by rw [List.length_set]; exact M7.out.three)
                rw [eW, hel.out] at M8
                have hl8 : Hid ((st.Q.set kk (Aq ++ ⟨es, ei, en - (1 + (vb : Int)), et⟩ :: Cq))[kk]? = some (Aq ++ ⟨es, ei, en - (1 + (vb : Int)), et⟩ :: Cq)) := Lib.hid (set_same_get hl.out)
                have hj8 : (Aq ++ ⟨es, ei, en - (1 + (vb : Int)), et⟩ :: Cq)[mm]? = some ⟨es, ei, en - (1 + (vb : Int)), et⟩ := by rw [← eA.out]; simp
                replace M8 := Lib.hid M8
                clear q8 o8 eW hbv z0 y0 z1 z2 z3 z3m M7
                obtain ⟨⟨z0, y0⟩, ⟨z1, z2⟩, z3⟩ := M8.out.at hv.out hl8.out hj8
                simp only at z1 z2
                clear hj8
                by_cases hy : en - (1 + (vb : Int)) = 0
                · skip
                  have dy : (en - (1 + (vb : Int)) == 0) = true := by simpa using hy
                  have es2 : st.gone kk es (Aq ++ Cq) = stN := by rw [← esN.out, if_pos hy]
                  have hQN : Hid (stN.Q = st.Q.set kk (Aq ++ Cq)) := Lib.hid (by rw [← es2]; rfl)
                  have hcu := count_unset st.U es hUs.out
                  have hctN : Hid (m - 1 = stN.U.count true) := Lib.hid (by rw [← es2]; show m - 1 = (st.U.set es false).count true; have := hct.out; omega)
                  have hm1 : Hid (((m - 1 : Nat) : Int) = (m : Int) - 1) := Lib.hid (by have := hct.out; omega)
                  replace hy := Lib.hid hy
                  clear es2 hcu
                  have hre := M8.out.qs.rows kk _ _ hv.out hl8.out
                  obtain ⟨Ax, capx, ex, hHE, -, -, -⟩ := RE.slice hre
                  have hlx : (Aq ++ ⟨es, ei, en - (1 + (vb : Int)), et⟩ :: Cq : List En).length = nl := by have h := enl.out; rw [el.out] at h; simpa using h
                  rw [hlx] at ex hHE
                  injection ex with ex1 ex2 ex3
                  subst ex1
                  clear ex2 ex3
                  have hb1 : nl ≤ cv := hcv
                  obtain ⟨ad2, n2, c2, en2, hrun, hsrc⟩ := tail_src (t := 37) (by kernel_rfl) (fun W => by kernel_rfl) bv nl cv (mm + 1) (by omega) hb1
                  have hn2 : n2 ≤ 4096 := by omega
                  clear en2
                  obtain ⟨hh, ehh⟩ : ∃ h, W1.heap.size = h := ⟨_, rfl⟩
                  have gl : g < hh := by have h1 := M8.out.bsz; have h2 := M8.out.qs.gb; omega
                  have hbh : Hid (base ≤ hh) := Lib.hid (by have h1 := M8.out.bsz; omega)
                  have HAll := Lib.hid (fun (X : World) (D : Below hh W1 X) => hHE.below (by rw [ehh]; exact D))
                  have HA2 : Hid (∀ X, Below hh W1 X → HE X (some ⟨bv, 0, none⟩) mm Aq) := Lib.hid (fun X D => by
                    have h1 := (HAll.out X D).take (k := mm) (by omega)
                    rw [show (Aq ++ ⟨es, ei, en - (1 + (vb : Int)), et⟩ :: Cq).take mm = Aq by rw [← eA.out]; simp] at h1
                    exact h1)
                  have HC2 : Hid (∀ X, Below hh W1 X → HE X (some ad2) n2 Cq) := Lib.hid (fun X D => by
                    have h1 := hsrc X _ (HAll.out X D)
                    rw [show (Aq ++ ⟨es, ei, en - (1 + (vb : Int)), et⟩ :: Cq).drop (mm + 1) = Cq by rw [← eA.out]; simp] at h1
                    exact h1)
                  have zof : Hid (∀ X, Below hh W1 X → X.cell? ⟨g, kk, none⟩ = some (.slice (some ⟨bv, 0, none⟩) nl cv) ∧ X.frozen? ⟨g, kk, none⟩ = false) := Lib.hid (fun X D =>
                    ⟨(World.cell?_of_block (a := ⟨g, kk, none⟩) (D.block g gl)).trans z0, (World.frozen?_of_block (a := ⟨g, kk, none⟩) (D.block g gl)).trans y0⟩)
                  have after : ∀ {X Y : World} {v v' : Value} {l : List En} (D : Below hh W1 X), RE 40 Y hh v' l → X.grownBy Y v.ownBlock → hh ≤ X.heap.size → (∀ q, v.ownBlock = some q → hh ≤ q) → Below hh W1 Y ∧ (∀ q, v'.ownBlock = some q → hh ≤ q) := fun D r g hs hv => ⟨D.grown g hs hv, fun q hq => (World.ownsRow.lt r q hq).1⟩
                  have hrun1 : ∀ W, (Instr.sliceAt 37 (.slice (some ⟨bv, 0, none⟩) nl cv) none (some (.int .i64 (mm : Int))) none).run Try.prog W = .ok (.slice (some ⟨bv, 0, none⟩) mm cv) W := fun W => slice_to (by kernel_rfl) (fun W => by kernel_rfl) _ _ _ _ (by omega) W
                  have eh1 := Lib.hid ehh
                  have hw2 : IntKind.i64.wrap ((mm : Int) + 1) = (mm : Int) + 1 := IntWalk.i64_in _ (by omega)
                  have hrun2 : ∀ W, (Instr.sliceAt 37 (.slice (some ⟨bv, 0, none⟩) nl cv) (some (.int .i64 ((mm : Int) + 1))) none none).run Try.prog W = .ok (.slice (some ad2) n2 c2) W := hrun
                  obtain ⟨n6, en6⟩ : ∃ n, (Aq ++ Cq).length = n := ⟨_, rfl⟩
                  replace en6 := Lib.hid en6
                  replace hrun := Lib.hid hrun
                  replace hre := Lib.hid hre
                  have gl' := Lib.hid gl
                  clear hHE hlx
                  go_wp2_with fail
                  go_upto_region 31 with (fail)
                  refine wp_region_held_drew (S := (fun _ : World => True)) (by rfl) trivial (fun hHeld => ?_)
                  clear hHeld
                  obtain ⟨W0, eW0⟩ : ∃ X, W1.drew = X := ⟨_, rfl⟩
                  rw [eW0]
                  have hsz : W0.heap.size = hh := by rw [← eW0]; exact ehh
                  have D0 : Below hh W1 W0 := by rw [← eW0]; exact ⟨rfl, rfl, rfl, Nat.le_refl _, fun _ _ => rfl⟩
                  obtain ⟨m0', y0'⟩ := zof.out W0 D0
                  obtain ⟨W2, eW2⟩ : ∃ X, W0.alloc (.cells #[] 40) = X := ⟨_, rfl⟩
                  have D2 : Below hh W1 W2 := by rw [← eW2]; exact D0.alloc (by omega) _
                  have hs2 : Hid (hh ≤ W2.heap.size) := Lib.hid (by rw [← eW2, World.size_alloc]; omega)
                  have R2 : Hid (RE 40 W2 hh (.slice (some ⟨hh, 0, none⟩) 0 0) []) := Lib.hid (by rw [← eW2, ← hsz]; exact re_empty _ W0 _ (Nat.le_refl _))
                  obtain ⟨m2, y2⟩ := zof.out W2 D2
                  replace D2 := Lib.hid D2
                  replace D0 := Lib.hid D0
                  replace eW2 := Lib.hid eW2
                  replace eW0 := Lib.hid eW0
                  have ehh := Lib.hid hsz
                  clear hsz z0 y0 z1 z2 z3
                  have hTr : (fun _ : World => True) W0 := trivial
                  refine wpAnyH_take (i := 0) (v := .int .i64 (kk : Int)) rfl (by kernel_rfl) (by kernel_rfl) (by kernel_rfl) (fun _ _ _ h => h) (Or.inl ⟨by kernel_rfl, fun W hSw => ?_⟩) (by assumption) ?_
                  · clear hSw
                    go_simp
                  (try simp only [Act.put, List.setIfInBounds_toArray, List.set_cons_zero, List.set_cons_succ])
                  refine wpAnyH_take (i := 2) (v := .int .i64 (kk : Int)) rfl (by kernel_rfl) (by kernel_rfl) (by kernel_rfl) (fun _ _ _ h => h) (Or.inl ⟨by kernel_rfl, fun W hSw => ?_⟩) (by assumption) ?_
                  · clear hSw
                    go_simp
                  (try simp only [Act.put, List.setIfInBounds_toArray, List.set_cons_zero, List.set_cons_succ])
                  refine wpAnyH_take (i := 3) (v := .pointer (some ⟨g, kk, none⟩)) rfl (by kernel_rfl) (by kernel_rfl) (by kernel_rfl) (fun _ _ _ h => h) (Or.inl ⟨by kernel_rfl, fun W hSw => ?_⟩) (by assumption) ?_
                  · clear hSw
                    go_simp
                  (try simp only [Act.put, List.setIfInBounds_toArray, List.set_cons_zero, List.set_cons_succ])
                  refine wpAnyH_take (i := 5) (v := .int .i64 (mm : Int)) rfl (by kernel_rfl) (by kernel_rfl) (by kernel_rfl) (fun _ _ _ h => h) (Or.inl ⟨by kernel_rfl, fun W hSw => ?_⟩) (by assumption) ?_
                  · clear hSw
                    go_simp
                  (try simp only [Act.put, List.setIfInBounds_toArray, List.set_cons_zero, List.set_cons_succ])
                  refine wpAnyH_take (i := 8) (v := .int .i64 (kk : Int)) rfl (by kernel_rfl) (by kernel_rfl) (by kernel_rfl) (fun _ _ _ h => h) (Or.inl ⟨by kernel_rfl, fun W hSw => ?_⟩) (by assumption) ?_
                  · clear hSw
                    go_simp
                  (try simp only [Act.put, List.setIfInBounds_toArray, List.set_cons_zero, List.set_cons_succ])
                  refine wpAnyH_take (i := 9) (v := .pointer (some ⟨g, kk, none⟩)) rfl (by kernel_rfl) (by kernel_rfl) (by kernel_rfl) (fun _ _ _ h => h) (Or.inl ⟨by kernel_rfl, fun W hSw => ?_⟩) (by assumption) ?_
                  · clear hSw
                    go_simp
                  (try simp only [Act.put, List.setIfInBounds_toArray, List.set_cons_zero, List.set_cons_succ])
                  refine wpAnyH_take (i := 11) (v := .int .i64 (mm : Int)) rfl (by kernel_rfl) (by kernel_rfl) (by kernel_rfl) (fun _ _ _ h => h) (Or.inl ⟨by kernel_rfl, fun W hSw => ?_⟩) (by assumption) ?_
                  · clear hSw
                    go_simp
                  (try simp only [Act.put, List.setIfInBounds_toArray, List.set_cons_zero, List.set_cons_succ])
                  refine wpAnyH_take (i := 12) (v := .int .i64 ((mm : Int) + 1)) rfl (by kernel_rfl) (by kernel_rfl) (by kernel_rfl) (fun _ _ _ h => h) (Or.inl ⟨by kernel_rfl, fun W hSw => ?_⟩) (by assumption) ?_
                  · clear hSw
                    go_simp
                  (try simp only [Act.put, List.setIfInBounds_toArray, List.set_cons_zero, List.set_cons_succ])
                  refine wpAnyH_ready (rs := [1, 4, 10]) (by kernel_rfl) (by simp) ?_
                  refine AllReadyH.cons rfl (fun K hK => ?_) (AllReadyH.cons rfl (fun K hK => ?_) (AllReadyH.cons rfl (fun K hK => ?_) AllReadyH.nil))
                  · go_simp
                    (try rw [eW2.out])
                    (try rw [ehh.out])
                    refine hK.out _ _ trivial (fun hHeld => ?_)
                    clear hK K hHeld
                    (try simp only [Act.put, List.setIfInBounds_toArray, List.set_cons_zero, List.set_cons_succ])
                    refine wpAnyH_ready (rs := [4, 10]) (by kernel_rfl) (by simp) ?_
                    refine AllReadyH.cons rfl (fun K hK => ?_) (AllReadyH.cons rfl (fun K hK => ?_) AllReadyH.nil)
                    · go_simp
                      refine hK.out _ _ trivial (fun hHeld => ?_)
                      clear hK K hHeld
                      (try simp only [Act.put, List.setIfInBounds_toArray, List.set_cons_zero, List.set_cons_succ])
                      refine wpAnyH_take (i := 6) (v := .slice (some ⟨bv, 0, none⟩) mm cv) rfl (by kernel_rfl) (by kernel_rfl) (by kernel_rfl) (fun _ _ _ h => h) (Or.inl ⟨by kernel_rfl, fun W hSw => ?_⟩) (by assumption) ?_
                      · clear hSw
                        go_simp
                      (try simp only [Act.put, List.setIfInBounds_toArray, List.set_cons_zero, List.set_cons_succ])
                      refine wpAnyH_ready (rs := [7, 10]) (by kernel_rfl) (by simp) ?_
                      refine AllReadyH.cons rfl (fun K hK => ?_) (AllReadyH.cons rfl (fun K hK => ?_) AllReadyH.nil)
                      · rw [if_pos (by kernel_rfl)]
                        refine wp_onto_e (T := 40) (.tmp 187) (.tmp 192) 37 (by rfl) hh i0 Try.underlying37 hi0 hz0 hz1 hz2 (.slice (some ⟨hh, 0, none⟩) 0 0) [] (by rfl) R2.out (some ⟨bv, 0, none⟩) mm cv Aq (by rfl) (HA2.out W2 D2.out) (fun e => by cases e) (by simp; omega) hs2.out ?_
                        intro v5 w5 r5 g5 o5
                        obtain ⟨D5, b5⟩ := after (D := D2.out) r5 g5 hs2.out (fun q hq => Nat.le_of_eq (by injection hq))
                        have r5 : RE 40 w5 hh v5 Aq := r5
                        obtain ⟨m5, y5⟩ := zof.out w5 D5
                        replace D5 := Lib.hid D5
                        replace b5 := Lib.hid b5
                        replace r5 := Lib.hid r5
                        clear g5 o5
                        refine hK.out _ _ trivial (fun hHeld => ?_)
                        clear hK K hHeld
                        (try simp only [Act.put, List.setIfInBounds_toArray, List.set_cons_zero, List.set_cons_succ])
                        refine wpAnyH_ready (rs := [10]) (by kernel_rfl) (by simp) ?_
                        refine AllReadyH.cons rfl (fun K hK => ?_) AllReadyH.nil
                        go_simp
                        refine hK.out _ _ trivial (fun hHeld => ?_)
                        clear hK K hHeld
                        (try simp only [Act.put, List.setIfInBounds_toArray, List.set_cons_zero, List.set_cons_succ])
                        refine wpAnyH_take (i := 13) (v := .slice (some ad2) n2 c2) rfl (by kernel_rfl) (by kernel_rfl) (by kernel_rfl) (fun _ _ _ h => h) (Or.inl ⟨by kernel_rfl, fun W hSw => ?_⟩) (by assumption) ?_
                        · clear hSw
                          go_simp
                        (try simp only [Act.put, List.setIfInBounds_toArray, List.set_cons_zero, List.set_cons_succ])
                        refine wpAnyH_ready (rs := [14]) (by kernel_rfl) (by simp) ?_
                        refine AllReadyH.cons rfl (fun K hK => ?_) AllReadyH.nil
                        rw [if_pos (by kernel_rfl)]
                        refine wp_onto_e (T := 40) (.tmp 193) (.tmp 199) 37 (by rfl) hh i0 Try.underlying37 hi0 hz0 hz1 hz2 v5 Aq (by rfl) r5.out (some ad2) n2 c2 Cq (by rfl) (HC2.out w5 D5.out) (fun e => by cases e) (by rw [eA.out]; omega) (by have := D5.out.size; omega) ?_
                        intro v6 w6 r6 g6 o6
                        obtain ⟨A6, c6, e6, -, -, -, -⟩ := r6.slice
                        rw [en6.out] at e6
                        subst e6
                        obtain ⟨D6, b6⟩ := after (D := D5.out) r6 g6 (by have := D5.out.size; omega) b5.out
                        obtain ⟨m6, y6⟩ := zof.out w6 D6
                        replace D6 := Lib.hid D6
                        replace b6 := Lib.hid b6
                        replace r6 := Lib.hid r6
                        clear g6 o6
                        refine hK.out _ _ trivial (fun hHeld => ?_)
                        clear hK K hHeld
                        (try simp only [Act.put, List.setIfInBounds_toArray, List.set_cons_zero, List.set_cons_succ])
                        refine wpAnyH_take (i := 15) (v := .pointer (some ⟨g, kk, none⟩)) rfl (by kernel_rfl) (by kernel_rfl) (by kernel_rfl) (fun _ _ _ h => h) (Or.inl ⟨by kernel_rfl, fun W hSw => ?_⟩) (by assumption) ?_
                        · clear hSw
                          go_simp
                        (try simp only [Act.put, List.setIfInBounds_toArray, List.set_cons_zero, List.set_cons_succ])
                        refine wpAnyH_ready (rs := [16]) (by kernel_rfl) (by simp) ?_
                        refine AllReadyH.cons rfl (fun K hK => ?_) AllReadyH.nil
                        go_simp
                        refine hK.out _ _ trivial (fun hHeld => ?_)
                        clear hK K hHeld
                        (try simp only [Act.put, List.setIfInBounds_toArray, List.set_cons_zero, List.set_cons_succ])
                        as_aux_lemma =>
                          refine wpAnyH_done (by kernel_rfl) ?_ _
                          obtain ⟨q9, o9⟩ := M8.out.qs.replaced hv.out hl8.out (by rw [eh1.out]; exact D6.out) (r6.out.base hbh.out) (by rw [eh1.out]; exact b6.out)
                          have M9 := M8.out.turn q9 o9 (by rw [List.length_set]; exact M8.out.three)
                          rw [List.set_set, ← hQN.out] at M9
                          replace M9 := Lib.hid M9
                          clear m0' m2 m5 m6 y0' y2 y5 y6 hrun1 hrun2 D0 D2 D5 D6 R2 r5 r6 b5 b6 q9 o9
                          go_wp2_with fail
                          go_meet
                          exact ⟨stN, _, m - 1, by rw [hm1.out], by omega, hctN, M9⟩
                      · go_simp
                        refine hK.out _ _ trivial (fun hHeld => ?_)
                        clear hK K hHeld
                        (try simp only [Act.put, List.setIfInBounds_toArray, List.set_cons_zero, List.set_cons_succ])
                        refine wpAnyH_take (i := 13) (v := .slice (some ad2) n2 c2) rfl (by kernel_rfl) (by kernel_rfl) (by kernel_rfl) (fun _ _ _ h => h) (Or.inl ⟨by kernel_rfl, fun W hSw => ?_⟩) (by assumption) ?_
                        · clear hSw
                          go_simp
                        (try simp only [Act.put, List.setIfInBounds_toArray, List.set_cons_zero, List.set_cons_succ])
                        refine wpAnyH_ready (rs := [7]) (by kernel_rfl) (by simp) ?_
                        refine AllReadyH.cons rfl (fun K hK => ?_) AllReadyH.nil
                        rw [if_pos (by kernel_rfl)]
                        refine wp_onto_e (T := 40) (.tmp 187) (.tmp 192) 37 (by rfl) hh i0 Try.underlying37 hi0 hz0 hz1 hz2 (.slice (some ⟨hh, 0, none⟩) 0 0) [] (by rfl) R2.out (some ⟨bv, 0, none⟩) mm cv Aq (by rfl) (HA2.out W2 D2.out) (fun e => by cases e) (by simp; omega) hs2.out ?_
                        intro v5 w5 r5 g5 o5
                        obtain ⟨D5, b5⟩ := after (D := D2.out) r5 g5 hs2.out (fun q hq => Nat.le_of_eq (by injection hq))
                        have r5 : RE 40 w5 hh v5 Aq := r5
                        obtain ⟨m5, y5⟩ := zof.out w5 D5
                        replace D5 := Lib.hid D5
                        replace b5 := Lib.hid b5
                        replace r5 := Lib.hid r5
                        clear g5 o5
                        refine hK.out _ _ trivial (fun hHeld => ?_)
                        clear hK K hHeld
                        (try simp only [Act.put, List.setIfInBounds_toArray, List.set_cons_zero, List.set_cons_succ])
                        refine wpAnyH_ready (rs := [14]) (by kernel_rfl) (by simp) ?_
                        refine AllReadyH.cons rfl (fun K hK => ?_) AllReadyH.nil
                        rw [if_pos (by kernel_rfl)]
                        refine wp_onto_e (T := 40) (.tmp 193) (.tmp 199) 37 (by rfl) hh i0 Try.underlying37 hi0 hz0 hz1 hz2 v5 Aq (by rfl) r5.out (some ad2) n2 c2 Cq (by rfl) (HC2.out w5 D5.out) (fun e => by cases e) (by rw [eA.out]; omega) (by have := D5.out.size; omega) ?_
                        intro v6 w6 r6 g6 o6
                        obtain ⟨A6, c6, e6, -, -, -, -⟩ := r6.slice
                        rw [en6.out] at e6
                        subst e6
                        obtain ⟨D6, b6⟩ := after (D := D5.out) r6 g6 (by have := D5.out.size; omega) b5.out
                        obtain ⟨m6, y6⟩ := zof.out w6 D6
                        replace D6 := Lib.hid D6
                        replace b6 := Lib.hid b6
                        replace r6 := Lib.hid r6
                        clear g6 o6
                        refine hK.out _ _ trivial (fun hHeld => ?_)
                        clear hK K hHeld
                        (try simp only [Act.put, List.setIfInBounds_toArray, List.set_cons_zero, List.set_cons_succ])
                        refine wpAnyH_take (i := 15) (v := .pointer (some ⟨g, kk, none⟩)) rfl (by kernel_rfl) (by kernel_rfl) (by kernel_rfl) (fun _ _ _ h => h) (Or.inl ⟨by kernel_rfl, fun W hSw => ?_⟩) (by assumption) ?_
                        · clear hSw
                          go_simp
                        (try simp only [Act.put, List.setIfInBounds_toArray, List.set_cons_zero, List.set_cons_succ])
                        refine wpAnyH_ready (rs := [16]) (by kernel_rfl) (by simp) ?_
                        refine AllReadyH.cons rfl (fun K hK => ?_) AllReadyH.nil
                        go_simp
                        refine hK.out _ _ trivial (fun hHeld => ?_)
                        clear hK K hHeld
                        (try simp only [Act.put, List.setIfInBounds_toArray, List.set_cons_zero, List.set_cons_succ])
                        as_aux_lemma =>
                          refine wpAnyH_done (by kernel_rfl) ?_ _
                          obtain ⟨q9, o9⟩ := M8.out.qs.replaced hv.out hl8.out (by rw [eh1.out]; exact D6.out) (r6.out.base hbh.out) (by rw [eh1.out]; exact b6.out)
                          have M9 := M8.out.turn q9 o9 (by rw [List.length_set]; exact M8.out.three)
                          rw [List.set_set, ← hQN.out] at M9
                          replace M9 := Lib.hid M9
                          clear m0' m2 m5 m6 y0' y2 y5 y6 hrun1 hrun2 D0 D2 D5 D6 R2 r5 r6 b5 b6 q9 o9
                          go_wp2_with fail
                          go_meet
                          exact ⟨stN, _, m - 1, by rw [hm1.out], by omega, hctN, M9⟩
                    · go_simp
                      refine hK.out _ _ trivial (fun hHeld => ?_)
                      clear hK K hHeld
                      (try simp only [Act.put, List.setIfInBounds_toArray, List.set_cons_zero, List.set_cons_succ])
                      refine wpAnyH_take (i := 13) (v := .slice (some ad2) n2 c2) rfl (by kernel_rfl) (by kernel_rfl) (by kernel_rfl) (fun _ _ _ h => h) (Or.inl ⟨by kernel_rfl, fun W hSw => ?_⟩) (by assumption) ?_
                      · clear hSw
                        go_simp
                      (try simp only [Act.put, List.setIfInBounds_toArray, List.set_cons_zero, List.set_cons_succ])
                      refine wpAnyH_ready (rs := [4]) (by kernel_rfl) (by simp) ?_
                      refine AllReadyH.cons rfl (fun K hK => ?_) AllReadyH.nil
                      go_simp
                      refine hK.out _ _ trivial (fun hHeld => ?_)
                      clear hK K hHeld
                      (try simp only [Act.put, List.setIfInBounds_toArray, List.set_cons_zero, List.set_cons_succ])
                      refine wpAnyH_take (i := 6) (v := .slice (some ⟨bv, 0, none⟩) mm cv) rfl (by kernel_rfl) (by kernel_rfl) (by kernel_rfl) (fun _ _ _ h => h) (Or.inl ⟨by kernel_rfl, fun W hSw => ?_⟩) (by assumption) ?_
                      · clear hSw
                        go_simp
                      (try simp only [Act.put, List.setIfInBounds_toArray, List.set_cons_zero, List.set_cons_succ])
                      refine wpAnyH_ready (rs := [7]) (by kernel_rfl) (by simp) ?_
                      refine AllReadyH.cons rfl (fun K hK => ?_) AllReadyH.nil
                      rw [if_pos (by kernel_rfl)]
                      refine wp_onto_e (T := 40) (.tmp 187) (.tmp 192) 37 (by rfl) hh i0 Try.underlying37 hi0 hz0 hz1 hz2 (.slice (some ⟨hh, 0, none⟩) 0 0) [] (by rfl) R2.out (some ⟨bv, 0, none⟩) mm cv Aq (by rfl) (HA2.out W2 D2.out) (fun e => by cases e) (by simp; omega) hs2.out ?_
                      intro v5 w5 r5 g5 o5
                      obtain ⟨D5, b5⟩ := after (D := D2.out) r5 g5 hs2.out (fun q hq => Nat.le_of_eq (by injection hq))
                      have r5 : RE 40 w5 hh v5 Aq := r5
                      obtain ⟨m5, y5⟩ := zof.out w5 D5
                      replace D5 := Lib.hid D5
                      replace b5 := Lib.hid b5
                      replace r5 := Lib.hid r5
                      clear g5 o5
                      refine hK.out _ _ trivial (fun hHeld => ?_)
                      clear hK K hHeld
                      (try simp only [Act.put, List.setIfInBounds_toArray, List.set_cons_zero, List.set_cons_succ])
                      refine wpAnyH_ready (rs := [14]) (by kernel_rfl) (by simp) ?_
                      refine AllReadyH.cons rfl (fun K hK => ?_) AllReadyH.nil
                      rw [if_pos (by kernel_rfl)]
                      refine wp_onto_e (T := 40) (.tmp 193) (.tmp 199) 37 (by rfl) hh i0 Try.underlying37 hi0 hz0 hz1 hz2 v5 Aq (by rfl) r5.out (some ad2) n2 c2 Cq (by rfl) (HC2.out w5 D5.out) (fun e => by cases e) (by rw [eA.out]; omega) (by have := D5.out.size; omega) ?_
                      intro v6 w6 r6 g6 o6
                      obtain ⟨A6, c6, e6, -, -, -, -⟩ := r6.slice
                      rw [en6.out] at e6
                      subst e6
                      obtain ⟨D6, b6⟩ := after (D := D5.out) r6 g6 (by have := D5.out.size; omega) b5.out
                      obtain ⟨m6, y6⟩ := zof.out w6 D6
                      replace D6 := Lib.hid D6
                      replace b6 := Lib.hid b6
                      replace r6 := Lib.hid r6
                      clear g6 o6
                      refine hK.out _ _ trivial (fun hHeld => ?_)
                      clear hK K hHeld
                      (try simp only [Act.put, List.setIfInBounds_toArray, List.set_cons_zero, List.set_cons_succ])
                      refine wpAnyH_take (i := 15) (v := .pointer (some ⟨g, kk, none⟩)) rfl (by kernel_rfl) (by kernel_rfl) (by kernel_rfl) (fun _ _ _ h => h) (Or.inl ⟨by kernel_rfl, fun W hSw => ?_⟩) (by assumption) ?_
                      · clear hSw
                        go_simp
                      (try simp only [Act.put, List.setIfInBounds_toArray, List.set_cons_zero, List.set_cons_succ])
                      refine wpAnyH_ready (rs := [16]) (by kernel_rfl) (by simp) ?_
                      refine AllReadyH.cons rfl (fun K hK => ?_) AllReadyH.nil
                      go_simp
                      refine hK.out _ _ trivial (fun hHeld => ?_)
                      clear hK K hHeld
                      (try simp only [Act.put, List.setIfInBounds_toArray, List.set_cons_zero, List.set_cons_succ])
                      as_aux_lemma =>
                        refine wpAnyH_done (by kernel_rfl) ?_ _
                        obtain ⟨q9, o9⟩ := M8.out.qs.replaced hv.out hl8.out (by rw [eh1.out]; exact D6.out) (r6.out.base hbh.out) (by rw [eh1.out]; exact b6.out)
                        have M9 := M8.out.turn q9 o9 (by rw [List.length_set]; exact M8.out.three)
                        rw [List.set_set, ← hQN.out] at M9
                        replace M9 := Lib.hid M9
                        clear m0' m2 m5 m6 y0' y2 y5 y6 hrun1 hrun2 D0 D2 D5 D6 R2 r5 r6 b5 b6 q9 o9
                        go_wp2_with fail
                        go_meet
                        exact ⟨stN, _, m - 1, by rw [hm1.out], by omega, hctN, M9⟩
                  · go_simp
                    refine hK.out _ _ trivial (fun hHeld => ?_)
                    clear hK K hHeld
                    (try simp only [Act.put, List.setIfInBounds_toArray, List.set_cons_zero, List.set_cons_succ])
                    refine wpAnyH_take (i := 6) (v := .slice (some ⟨bv, 0, none⟩) mm cv) rfl (by kernel_rfl) (by kernel_rfl) (by kernel_rfl) (fun _ _ _ h => h) (Or.inl ⟨by kernel_rfl, fun W hSw => ?_⟩) (by assumption) ?_
                    · clear hSw
                      go_simp
                    (try simp only [Act.put, List.setIfInBounds_toArray, List.set_cons_zero, List.set_cons_succ])
                    refine wpAnyH_ready (rs := [1, 10]) (by kernel_rfl) (by simp) ?_
                    refine AllReadyH.cons rfl (fun K hK => ?_) (AllReadyH.cons rfl (fun K hK => ?_) AllReadyH.nil)
                    · go_simp
                      (try rw [eW2.out])
                      (try rw [ehh.out])
                      refine hK.out _ _ trivial (fun hHeld => ?_)
                      clear hK K hHeld
                      (try simp only [Act.put, List.setIfInBounds_toArray, List.set_cons_zero, List.set_cons_succ])
                      refine wpAnyH_ready (rs := [7, 10]) (by kernel_rfl) (by simp) ?_
                      refine AllReadyH.cons rfl (fun K hK => ?_) (AllReadyH.cons rfl (fun K hK => ?_) AllReadyH.nil)
                      · rw [if_pos (by kernel_rfl)]
                        refine wp_onto_e (T := 40) (.tmp 187) (.tmp 192) 37 (by rfl) hh i0 Try.underlying37 hi0 hz0 hz1 hz2 (.slice (some ⟨hh, 0, none⟩) 0 0) [] (by rfl) R2.out (some ⟨bv, 0, none⟩) mm cv Aq (by rfl) (HA2.out W2 D2.out) (fun e => by cases e) (by simp; omega) hs2.out ?_
                        intro v5 w5 r5 g5 o5
                        obtain ⟨D5, b5⟩ := after (D := D2.out) r5 g5 hs2.out (fun q hq => Nat.le_of_eq (by injection hq))
                        have r5 : RE 40 w5 hh v5 Aq := r5
                        obtain ⟨m5, y5⟩ := zof.out w5 D5
                        replace D5 := Lib.hid D5
                        replace b5 := Lib.hid b5
                        replace r5 := Lib.hid r5
                        clear g5 o5
                        refine hK.out _ _ trivial (fun hHeld => ?_)
                        clear hK K hHeld
                        (try simp only [Act.put, List.setIfInBounds_toArray, List.set_cons_zero, List.set_cons_succ])
                        refine wpAnyH_ready (rs := [10]) (by kernel_rfl) (by simp) ?_
                        refine AllReadyH.cons rfl (fun K hK => ?_) AllReadyH.nil
                        go_simp
                        refine hK.out _ _ trivial (fun hHeld => ?_)
                        clear hK K hHeld
                        (try simp only [Act.put, List.setIfInBounds_toArray, List.set_cons_zero, List.set_cons_succ])
                        refine wpAnyH_take (i := 13) (v := .slice (some ad2) n2 c2) rfl (by kernel_rfl) (by kernel_rfl) (by kernel_rfl) (fun _ _ _ h => h) (Or.inl ⟨by kernel_rfl, fun W hSw => ?_⟩) (by assumption) ?_
                        · clear hSw
                          go_simp
                        (try simp only [Act.put, List.setIfInBounds_toArray, List.set_cons_zero, List.set_cons_succ])
                        refine wpAnyH_ready (rs := [14]) (by kernel_rfl) (by simp) ?_
                        refine AllReadyH.cons rfl (fun K hK => ?_) AllReadyH.nil
                        rw [if_pos (by kernel_rfl)]
                        refine wp_onto_e (T := 40) (.tmp 193) (.tmp 199) 37 (by rfl) hh i0 Try.underlying37 hi0 hz0 hz1 hz2 v5 Aq (by rfl) r5.out (some ad2) n2 c2 Cq (by rfl) (HC2.out w5 D5.out) (fun e => by cases e) (by rw [eA.out]; omega) (by have := D5.out.size; omega) ?_
                        intro v6 w6 r6 g6 o6
                        obtain ⟨A6, c6, e6, -, -, -, -⟩ := r6.slice
                        rw [en6.out] at e6
                        subst e6
                        obtain ⟨D6, b6⟩ := after (D := D5.out) r6 g6 (by have := D5.out.size; omega) b5.out
                        obtain ⟨m6, y6⟩ := zof.out w6 D6
                        replace D6 := Lib.hid D6
                        replace b6 := Lib.hid b6
                        replace r6 := Lib.hid r6
                        clear g6 o6
                        refine hK.out _ _ trivial (fun hHeld => ?_)
                        clear hK K hHeld
                        (try simp only [Act.put, List.setIfInBounds_toArray, List.set_cons_zero, List.set_cons_succ])
                        refine wpAnyH_take (i := 15) (v := .pointer (some ⟨g, kk, none⟩)) rfl (by kernel_rfl) (by kernel_rfl) (by kernel_rfl) (fun _ _ _ h => h) (Or.inl ⟨by kernel_rfl, fun W hSw => ?_⟩) (by assumption) ?_
                        · clear hSw
                          go_simp
                        (try simp only [Act.put, List.setIfInBounds_toArray, List.set_cons_zero, List.set_cons_succ])
                        refine wpAnyH_ready (rs := [16]) (by kernel_rfl) (by simp) ?_
                        refine AllReadyH.cons rfl (fun K hK => ?_) AllReadyH.nil
                        go_simp
                        refine hK.out _ _ trivial (fun hHeld => ?_)
                        clear hK K hHeld
                        (try simp only [Act.put, List.setIfInBounds_toArray, List.set_cons_zero, List.set_cons_succ])
                        as_aux_lemma =>
                          refine wpAnyH_done (by kernel_rfl) ?_ _
                          obtain ⟨q9, o9⟩ := M8.out.qs.replaced hv.out hl8.out (by rw [eh1.out]; exact D6.out) (r6.out.base hbh.out) (by rw [eh1.out]; exact b6.out)
                          have M9 := M8.out.turn q9 o9 (by rw [List.length_set]; exact M8.out.three)
                          rw [List.set_set, ← hQN.out] at M9
                          replace M9 := Lib.hid M9
                          clear m0' m2 m5 m6 y0' y2 y5 y6 hrun1 hrun2 D0 D2 D5 D6 R2 r5 r6 b5 b6 q9 o9
                          go_wp2_with fail
                          go_meet
                          exact ⟨stN, _, m - 1, by rw [hm1.out], by omega, hctN, M9⟩
                      · go_simp
                        refine hK.out _ _ trivial (fun hHeld => ?_)
                        clear hK K hHeld
                        (try simp only [Act.put, List.setIfInBounds_toArray, List.set_cons_zero, List.set_cons_succ])
                        refine wpAnyH_take (i := 13) (v := .slice (some ad2) n2 c2) rfl (by kernel_rfl) (by kernel_rfl) (by kernel_rfl) (fun _ _ _ h => h) (Or.inl ⟨by kernel_rfl, fun W hSw => ?_⟩) (by assumption) ?_
                        · clear hSw
                          go_simp
                        (try simp only [Act.put, List.setIfInBounds_toArray, List.set_cons_zero, List.set_cons_succ])
                        refine wpAnyH_ready (rs := [7]) (by kernel_rfl) (by simp) ?_
                        refine AllReadyH.cons rfl (fun K hK => ?_) AllReadyH.nil
                        rw [if_pos (by kernel_rfl)]
                        refine wp_onto_e (T := 40) (.tmp 187) (.tmp 192) 37 (by rfl) hh i0 Try.underlying37 hi0 hz0 hz1 hz2 (.slice (some ⟨hh, 0, none⟩) 0 0) [] (by rfl) R2.out (some ⟨bv, 0, none⟩) mm cv Aq (by rfl) (HA2.out W2 D2.out) (fun e => by cases e) (by simp; omega) hs2.out ?_
                        intro v5 w5 r5 g5 o5
                        obtain ⟨D5, b5⟩ := after (D := D2.out) r5 g5 hs2.out (fun q hq => Nat.le_of_eq (by injection hq))
                        have r5 : RE 40 w5 hh v5 Aq := r5
                        obtain ⟨m5, y5⟩ := zof.out w5 D5
                        replace D5 := Lib.hid D5
                        replace b5 := Lib.hid b5
                        replace r5 := Lib.hid r5
                        clear g5 o5
                        refine hK.out _ _ trivial (fun hHeld => ?_)
                        clear hK K hHeld
                        (try simp only [Act.put, List.setIfInBounds_toArray, List.set_cons_zero, List.set_cons_succ])
                        refine wpAnyH_ready (rs := [14]) (by kernel_rfl) (by simp) ?_
                        refine AllReadyH.cons rfl (fun K hK => ?_) AllReadyH.nil
                        rw [if_pos (by kernel_rfl)]
                        refine wp_onto_e (T := 40) (.tmp 193) (.tmp 199) 37 (by rfl) hh i0 Try.underlying37 hi0 hz0 hz1 hz2 v5 Aq (by rfl) r5.out (some ad2) n2 c2 Cq (by rfl) (HC2.out w5 D5.out) (fun e => by cases e) (by rw [eA.out]; omega) (by have := D5.out.size; omega) ?_
                        intro v6 w6 r6 g6 o6
                        obtain ⟨A6, c6, e6, -, -, -, -⟩ := r6.slice
                        rw [en6.out] at e6
                        subst e6
                        obtain ⟨D6, b6⟩ := after (D := D5.out) r6 g6 (by have := D5.out.size; omega) b5.out
                        obtain ⟨m6, y6⟩ := zof.out w6 D6
                        replace D6 := Lib.hid D6
                        replace b6 := Lib.hid b6
                        replace r6 := Lib.hid r6
                        clear g6 o6
                        refine hK.out _ _ trivial (fun hHeld => ?_)
                        clear hK K hHeld
                        (try simp only [Act.put, List.setIfInBounds_toArray, List.set_cons_zero, List.set_cons_succ])
                        refine wpAnyH_take (i := 15) (v := .pointer (some ⟨g, kk, none⟩)) rfl (by kernel_rfl) (by kernel_rfl) (by kernel_rfl) (fun _ _ _ h => h) (Or.inl ⟨by kernel_rfl, fun W hSw => ?_⟩) (by assumption) ?_
                        · clear hSw
                          go_simp
                        (try simp only [Act.put, List.setIfInBounds_toArray, List.set_cons_zero, List.set_cons_succ])
                        refine wpAnyH_ready (rs := [16]) (by kernel_rfl) (by simp) ?_
                        refine AllReadyH.cons rfl (fun K hK => ?_) AllReadyH.nil
                        go_simp
                        refine hK.out _ _ trivial (fun hHeld => ?_)
                        clear hK K hHeld
                        (try simp only [Act.put, List.setIfInBounds_toArray, List.set_cons_zero, List.set_cons_succ])
                        as_aux_lemma =>
                          refine wpAnyH_done (by kernel_rfl) ?_ _
                          obtain ⟨q9, o9⟩ := M8.out.qs.replaced hv.out hl8.out (by rw [eh1.out]; exact D6.out) (r6.out.base hbh.out) (by rw [eh1.out]; exact b6.out)
                          have M9 := M8.out.turn q9 o9 (by rw [List.length_set]; exact M8.out.three)
                          rw [List.set_set, ← hQN.out] at M9
                          replace M9 := Lib.hid M9
                          clear m0' m2 m5 m6 y0' y2 y5 y6 hrun1 hrun2 D0 D2 D5 D6 R2 r5 r6 b5 b6 q9 o9
                          go_wp2_with fail
                          go_meet
                          exact ⟨stN, _, m - 1, by rw [hm1.out], by omega, hctN, M9⟩
                    · go_simp
                      refine hK.out _ _ trivial (fun hHeld => ?_)
                      clear hK K hHeld
                      (try simp only [Act.put, List.setIfInBounds_toArray, List.set_cons_zero, List.set_cons_succ])
                      refine wpAnyH_take (i := 13) (v := .slice (some ad2) n2 c2) rfl (by kernel_rfl) (by kernel_rfl) (by kernel_rfl) (fun _ _ _ h => h) (Or.inl ⟨by kernel_rfl, fun W hSw => ?_⟩) (by assumption) ?_
                      · clear hSw
                        go_simp
                      (try simp only [Act.put, List.setIfInBounds_toArray, List.set_cons_zero, List.set_cons_succ])
                      refine wpAnyH_ready (rs := [1]) (by kernel_rfl) (by simp) ?_
                      refine AllReadyH.cons rfl (fun K hK => ?_) AllReadyH.nil
                      go_simp
                      (try rw [eW2.out])
                      (try rw [ehh.out])
                      refine hK.out _ _ trivial (fun hHeld => ?_)
                      clear hK K hHeld
                      (try simp only [Act.put, List.setIfInBounds_toArray, List.set_cons_zero, List.set_cons_succ])
                      refine wpAnyH_ready (rs := [7]) (by kernel_rfl) (by simp) ?_
                      refine AllReadyH.cons rfl (fun K hK => ?_) AllReadyH.nil
                      rw [if_pos (by kernel_rfl)]
                      refine wp_onto_e (T := 40) (.tmp 187) (.tmp 192) 37 (by rfl) hh i0 Try.underlying37 hi0 hz0 hz1 hz2 (.slice (some ⟨hh, 0, none⟩) 0 0) [] (by rfl) R2.out (some ⟨bv, 0, none⟩) mm cv Aq (by rfl) (HA2.out W2 D2.out) (fun e => by cases e) (by simp; omega) hs2.out ?_
                      intro v5 w5 r5 g5 o5
                      obtain ⟨D5, b5⟩ := after (D := D2.out) r5 g5 hs2.out (fun q hq => Nat.le_of_eq (by injection hq))
                      have r5 : RE 40 w5 hh v5 Aq := r5
                      obtain ⟨m5, y5⟩ := zof.out w5 D5
                      replace D5 := Lib.hid D5
                      replace b5 := Lib.hid b5
                      replace r5 := Lib.hid r5
                      clear g5 o5
                      refine hK.out _ _ trivial (fun hHeld => ?_)
                      clear hK K hHeld
                      (try simp only [Act.put, List.setIfInBounds_toArray, List.set_cons_zero, List.set_cons_succ])
                      refine wpAnyH_ready (rs := [14]) (by kernel_rfl) (by simp) ?_
                      refine AllReadyH.cons rfl (fun K hK => ?_) AllReadyH.nil
                      rw [if_pos (by kernel_rfl)]
                      refine wp_onto_e (T := 40) (.tmp 193) (.tmp 199) 37 (by rfl) hh i0 Try.underlying37 hi0 hz0 hz1 hz2 v5 Aq (by rfl) r5.out (some ad2) n2 c2 Cq (by rfl) (HC2.out w5 D5.out) (fun e => by cases e) (by rw [eA.out]; omega) (by have := D5.out.size; omega) ?_
                      intro v6 w6 r6 g6 o6
                      obtain ⟨A6, c6, e6, -, -, -, -⟩ := r6.slice
                      rw [en6.out] at e6
                      subst e6
                      obtain ⟨D6, b6⟩ := after (D := D5.out) r6 g6 (by have := D5.out.size; omega) b5.out
                      obtain ⟨m6, y6⟩ := zof.out w6 D6
                      replace D6 := Lib.hid D6
                      replace b6 := Lib.hid b6
                      replace r6 := Lib.hid r6
                      clear g6 o6
                      refine hK.out _ _ trivial (fun hHeld => ?_)
                      clear hK K hHeld
                      (try simp only [Act.put, List.setIfInBounds_toArray, List.set_cons_zero, List.set_cons_succ])
                      refine wpAnyH_take (i := 15) (v := .pointer (some ⟨g, kk, none⟩)) rfl (by kernel_rfl) (by kernel_rfl) (by kernel_rfl) (fun _ _ _ h => h) (Or.inl ⟨by kernel_rfl, fun W hSw => ?_⟩) (by assumption) ?_
                      · clear hSw
                        go_simp
                      (try simp only [Act.put, List.setIfInBounds_toArray, List.set_cons_zero, List.set_cons_succ])
                      refine wpAnyH_ready (rs := [16]) (by kernel_rfl) (by simp) ?_
                      refine AllReadyH.cons rfl (fun K hK => ?_) AllReadyH.nil
                      go_simp
                      refine hK.out _ _ trivial (fun hHeld => ?_)
                      clear hK K hHeld
                      (try simp only [Act.put, List.setIfInBounds_toArray, List.set_cons_zero, List.set_cons_succ])
                      as_aux_lemma =>
                        refine wpAnyH_done (by kernel_rfl) ?_ _
                        obtain ⟨q9, o9⟩ := M8.out.qs.replaced hv.out hl8.out (by rw [eh1.out]; exact D6.out) (r6.out.base hbh.out) (by rw [eh1.out]; exact b6.out)
                        have M9 := M8.out.turn q9 o9 (by rw [List.length_set]; exact M8.out.three)
                        rw [List.set_set, ← hQN.out] at M9
                        replace M9 := Lib.hid M9
                        clear m0' m2 m5 m6 y0' y2 y5 y6 hrun1 hrun2 D0 D2 D5 D6 R2 r5 r6 b5 b6 q9 o9
                        go_wp2_with fail
                        go_meet
                        exact ⟨stN, _, m - 1, by rw [hm1.out], by omega, hctN, M9⟩
                  · go_simp
                    refine hK.out _ _ trivial (fun hHeld => ?_)
                    clear hK K hHeld
                    (try simp only [Act.put, List.setIfInBounds_toArray, List.set_cons_zero, List.set_cons_succ])
                    refine wpAnyH_take (i := 13) (v := .slice (some ad2) n2 c2) rfl (by kernel_rfl) (by kernel_rfl) (by kernel_rfl) (fun _ _ _ h => h) (Or.inl ⟨by kernel_rfl, fun W hSw => ?_⟩) (by assumption) ?_
                    · clear hSw
                      go_simp
                    (try simp only [Act.put, List.setIfInBounds_toArray, List.set_cons_zero, List.set_cons_succ])
                    refine wpAnyH_ready (rs := [1, 4]) (by kernel_rfl) (by simp) ?_
                    refine AllReadyH.cons rfl (fun K hK => ?_) (AllReadyH.cons rfl (fun K hK => ?_) AllReadyH.nil)
                    · go_simp
                      (try rw [eW2.out])
                      (try rw [ehh.out])
                      refine hK.out _ _ trivial (fun hHeld => ?_)
                      clear hK K hHeld
                      (try simp only [Act.put, List.setIfInBounds_toArray, List.set_cons_zero, List.set_cons_succ])
                      refine wpAnyH_ready (rs := [4]) (by kernel_rfl) (by simp) ?_
                      refine AllReadyH.cons rfl (fun K hK => ?_) AllReadyH.nil
                      go_simp
                      refine hK.out _ _ trivial (fun hHeld => ?_)
                      clear hK K hHeld
                      (try simp only [Act.put, List.setIfInBounds_toArray, List.set_cons_zero, List.set_cons_succ])
                      refine wpAnyH_take (i := 6) (v := .slice (some ⟨bv, 0, none⟩) mm cv) rfl (by kernel_rfl) (by kernel_rfl) (by kernel_rfl) (fun _ _ _ h => h) (Or.inl ⟨by kernel_rfl, fun W hSw => ?_⟩) (by assumption) ?_
                      · clear hSw
                        go_simp
                      (try simp only [Act.put, List.setIfInBounds_toArray, List.set_cons_zero, List.set_cons_succ])
                      refine wpAnyH_ready (rs := [7]) (by kernel_rfl) (by simp) ?_
                      refine AllReadyH.cons rfl (fun K hK => ?_) AllReadyH.nil
                      rw [if_pos (by kernel_rfl)]
                      refine wp_onto_e (T := 40) (.tmp 187) (.tmp 192) 37 (by rfl) hh i0 Try.underlying37 hi0 hz0 hz1 hz2 (.slice (some ⟨hh, 0, none⟩) 0 0) [] (by rfl) R2.out (some ⟨bv, 0, none⟩) mm cv Aq (by rfl) (HA2.out W2 D2.out) (fun e => by cases e) (by simp; omega) hs2.out ?_
                      intro v5 w5 r5 g5 o5
                      obtain ⟨D5, b5⟩ := after (D := D2.out) r5 g5 hs2.out (fun q hq => Nat.le_of_eq (by injection hq))
                      have r5 : RE 40 w5 hh v5 Aq := r5
                      obtain ⟨m5, y5⟩ := zof.out w5 D5
                      replace D5 := Lib.hid D5
                      replace b5 := Lib.hid b5
                      replace r5 := Lib.hid r5
                      clear g5 o5
                      refine hK.out _ _ trivial (fun hHeld => ?_)
                      clear hK K hHeld
                      (try simp only [Act.put, List.setIfInBounds_toArray, List.set_cons_zero, List.set_cons_succ])
                      refine wpAnyH_ready (rs := [14]) (by kernel_rfl) (by simp) ?_
                      refine AllReadyH.cons rfl (fun K hK => ?_) AllReadyH.nil
                      rw [if_pos (by kernel_rfl)]
                      refine wp_onto_e (T := 40) (.tmp 193) (.tmp 199) 37 (by rfl) hh i0 Try.underlying37 hi0 hz0 hz1 hz2 v5 Aq (by rfl) r5.out (some ad2) n2 c2 Cq (by rfl) (HC2.out w5 D5.out) (fun e => by cases e) (by rw [eA.out]; omega) (by have := D5.out.size; omega) ?_
                      intro v6 w6 r6 g6 o6
                      obtain ⟨A6, c6, e6, -, -, -, -⟩ := r6.slice
                      rw [en6.out] at e6
                      subst e6
                      obtain ⟨D6, b6⟩ := after (D := D5.out) r6 g6 (by have := D5.out.size; omega) b5.out
                      obtain ⟨m6, y6⟩ := zof.out w6 D6
                      replace D6 := Lib.hid D6
                      replace b6 := Lib.hid b6
                      replace r6 := Lib.hid r6
                      clear g6 o6
                      refine hK.out _ _ trivial (fun hHeld => ?_)
                      clear hK K hHeld
                      (try simp only [Act.put, List.setIfInBounds_toArray, List.set_cons_zero, List.set_cons_succ])
                      refine wpAnyH_take (i := 15) (v := .pointer (some ⟨g, kk, none⟩)) rfl (by kernel_rfl) (by kernel_rfl) (by kernel_rfl) (fun _ _ _ h => h) (Or.inl ⟨by kernel_rfl, fun W hSw => ?_⟩) (by assumption) ?_
                      · clear hSw
                        go_simp
                      (try simp only [Act.put, List.setIfInBounds_toArray, List.set_cons_zero, List.set_cons_succ])
                      refine wpAnyH_ready (rs := [16]) (by kernel_rfl) (by simp) ?_
                      refine AllReadyH.cons rfl (fun K hK => ?_) AllReadyH.nil
                      go_simp
                      refine hK.out _ _ trivial (fun hHeld => ?_)
                      clear hK K hHeld
                      (try simp only [Act.put, List.setIfInBounds_toArray, List.set_cons_zero, List.set_cons_succ])
                      as_aux_lemma =>
                        refine wpAnyH_done (by kernel_rfl) ?_ _
                        obtain ⟨q9, o9⟩ := M8.out.qs.replaced hv.out hl8.out (by rw [eh1.out]; exact D6.out) (r6.out.base hbh.out) (by rw [eh1.out]; exact b6.out)
                        have M9 := M8.out.turn q9 o9 (by rw [List.length_set]; exact M8.out.three)
                        rw [List.set_set, ← hQN.out] at M9
                        replace M9 := Lib.hid M9
                        clear m0' m2 m5 m6 y0' y2 y5 y6 hrun1 hrun2 D0 D2 D5 D6 R2 r5 r6 b5 b6 q9 o9
                        go_wp2_with fail
                        go_meet
                        exact ⟨stN, _, m - 1, by rw [hm1.out], by omega, hctN, M9⟩
                    · go_simp
                      refine hK.out _ _ trivial (fun hHeld => ?_)
                      clear hK K hHeld
                      (try simp only [Act.put, List.setIfInBounds_toArray, List.set_cons_zero, List.set_cons_succ])
                      refine wpAnyH_take (i := 6) (v := .slice (some ⟨bv, 0, none⟩) mm cv) rfl (by kernel_rfl) (by kernel_rfl) (by kernel_rfl) (fun _ _ _ h => h) (Or.inl ⟨by kernel_rfl, fun W hSw => ?_⟩) (by assumption) ?_
                      · clear hSw
                        go_simp
                      (try simp only [Act.put, List.setIfInBounds_toArray, List.set_cons_zero, List.set_cons_succ])
                      refine wpAnyH_ready (rs := [1]) (by kernel_rfl) (by simp) ?_
                      refine AllReadyH.cons rfl (fun K hK => ?_) AllReadyH.nil
                      go_simp
                      (try rw [eW2.out])
                      (try rw [ehh.out])
                      refine hK.out _ _ trivial (fun hHeld => ?_)
                      clear hK K hHeld
                      (try simp only [Act.put, List.setIfInBounds_toArray, List.set_cons_zero, List.set_cons_succ])
                      refine wpAnyH_ready (rs := [7]) (by kernel_rfl) (by simp) ?_
                      refine AllReadyH.cons rfl (fun K hK => ?_) AllReadyH.nil
                      rw [if_pos (by kernel_rfl)]
                      refine wp_onto_e (T := 40) (.tmp 187) (.tmp 192) 37 (by rfl) hh i0 Try.underlying37 hi0 hz0 hz1 hz2 (.slice (some ⟨hh, 0, none⟩) 0 0) [] (by rfl) R2.out (some ⟨bv, 0, none⟩) mm cv Aq (by rfl) (HA2.out W2 D2.out) (fun e => by cases e) (by simp; omega) hs2.out ?_
                      intro v5 w5 r5 g5 o5
                      obtain ⟨D5, b5⟩ := after (D := D2.out) r5 g5 hs2.out (fun q hq => Nat.le_of_eq (by injection hq))
                      have r5 : RE 40 w5 hh v5 Aq := r5
                      obtain ⟨m5, y5⟩ := zof.out w5 D5
                      replace D5 := Lib.hid D5
                      replace b5 := Lib.hid b5
                      replace r5 := Lib.hid r5
                      clear g5 o5
                      refine hK.out _ _ trivial (fun hHeld => ?_)
                      clear hK K hHeld
                      (try simp only [Act.put, List.setIfInBounds_toArray, List.set_cons_zero, List.set_cons_succ])
                      refine wpAnyH_ready (rs := [14]) (by kernel_rfl) (by simp) ?_
                      refine AllReadyH.cons rfl (fun K hK => ?_) AllReadyH.nil
                      rw [if_pos (by kernel_rfl)]
                      refine wp_onto_e (T := 40) (.tmp 193) (.tmp 199) 37 (by rfl) hh i0 Try.underlying37 hi0 hz0 hz1 hz2 v5 Aq (by rfl) r5.out (some ad2) n2 c2 Cq (by rfl) (HC2.out w5 D5.out) (fun e => by cases e) (by rw [eA.out]; omega) (by have := D5.out.size; omega) ?_
                      intro v6 w6 r6 g6 o6
                      obtain ⟨A6, c6, e6, -, -, -, -⟩ := r6.slice
                      rw [en6.out] at e6
                      subst e6
                      obtain ⟨D6, b6⟩ := after (D := D5.out) r6 g6 (by have := D5.out.size; omega) b5.out
                      obtain ⟨m6, y6⟩ := zof.out w6 D6
                      replace D6 := Lib.hid D6
                      replace b6 := Lib.hid b6
                      replace r6 := Lib.hid r6
                      clear g6 o6
                      refine hK.out _ _ trivial (fun hHeld => ?_)
                      clear hK K hHeld
                      (try simp only [Act.put, List.setIfInBounds_toArray, List.set_cons_zero, List.set_cons_succ])
                      refine wpAnyH_take (i := 15) (v := .pointer (some ⟨g, kk, none⟩)) rfl (by kernel_rfl) (by kernel_rfl) (by kernel_rfl) (fun _ _ _ h => h) (Or.inl ⟨by kernel_rfl, fun W hSw => ?_⟩) (by assumption) ?_
                      · clear hSw
                        go_simp
                      (try simp only [Act.put, List.setIfInBounds_toArray, List.set_cons_zero, List.set_cons_succ])
                      refine wpAnyH_ready (rs := [16]) (by kernel_rfl) (by simp) ?_
                      refine AllReadyH.cons rfl (fun K hK => ?_) AllReadyH.nil
                      go_simp
                      refine hK.out _ _ trivial (fun hHeld => ?_)
                      clear hK K hHeld
                      (try simp only [Act.put, List.setIfInBounds_toArray, List.set_cons_zero, List.set_cons_succ])
                      as_aux_lemma =>
                        refine wpAnyH_done (by kernel_rfl) ?_ _
                        obtain ⟨q9, o9⟩ := M8.out.qs.replaced hv.out hl8.out (by rw [eh1.out]; exact D6.out) (r6.out.base hbh.out) (by rw [eh1.out]; exact b6.out)
                        have M9 := M8.out.turn q9 o9 (by rw [List.length_set]; exact M8.out.three)
                        rw [List.set_set, ← hQN.out] at M9
                        replace M9 := Lib.hid M9
                        clear m0' m2 m5 m6 y0' y2 y5 y6 hrun1 hrun2 D0 D2 D5 D6 R2 r5 r6 b5 b6 q9 o9
                        go_wp2_with fail
                        go_meet
                        exact ⟨stN, _, m - 1, by rw [hm1.out], by omega, hctN, M9⟩
                · as_aux_lemma =>
                  have dy : (en - (1 + (vb : Int)) == 0) = false := by simpa using hy
                  have es2 : st.turned kk (Aq ++ ⟨es, ei, en - (1 + (vb : Int)), et⟩ :: Cq) = stN := by rw [← esN.out, if_neg hy]
                  have hctN : Hid (m = stN.U.count true) := Lib.hid (by rw [← es2]; exact hct.out)
                  have M9 := M8.out
                  rw [show st.Q.set kk (Aq ++ ⟨es, ei, en - (1 + (vb : Int)), et⟩ :: Cq) = stN.Q by rw [← es2]; rfl] at M9
                  replace M9 := Lib.hid M9
                  clear es2 M8
                  go_wp2_with fail
                  go_meet
                  exact ⟨stN, V, m, rfl, hmR, hctN, M9⟩
            case rest => as_aux_lemma =>
              clear m0 y0 hre hv hl enl hcv hcv0 hcv2 hnl htb e0 e1 e2 e3 e4 e5 xk xq xs xi xn hbb hct
              rename World => wy
              obtain ⟨st2, V2, m2, rfl, hm2R, hcnt, hM2⟩ := hcut
              clear hM
              go_wp2_with fail
              go_loopw [17] (fun kv wz => ∃ k : Nat, kv = .int .i64 k ∧ k ≤ 3 ∧ Hid (Ow B c F g base R st2 st2.Q V2 w wz)) (fun kv _ => (3 - intOf kv).toNat)
              case atStart => exact ⟨0, rfl, by omega, hM2⟩
              case round => as_aux_lemma =>
                clear hM2
                rename World => wz
                obtain ⟨k, rfl, hk3, hM⟩ := hrel
                by_cases hlt : k < 3
                · have dk : decide ((k : Int) < 3) = true := decide_eq_true (by omega)
                  obtain ⟨l, hl⟩ : ∃ l, st2.Q[k]? = some l := ⟨_, List.getElem?_eq_getElem (by rw [hM.out.qlen]; exact hlt)⟩
                  obtain ⟨v, hv⟩ : ∃ v, V2[k]? = some v := ⟨_, List.getElem?_eq_getElem (by rw [hM.out.qs.len, hM.out.qlen]; exact hlt)⟩
                  have HL := List_any B c F st2 (k : Int) wz (Lib.hid hM.out.ar) (by have := hM.out.qlen; omega)
                  have el : listO st2 (k : Int) = l := listO_at hl
                  rw [el] at HL
                  have hll : l.length ≤ 4096 := by have h1 := hM.out.ar.ok.short hl; have h2 := hM.out.ar.room; omega
                  obtain ⟨nl, enl⟩ : ∃ n, l.length = n := ⟨_, rfl⟩
                  rw [enl] at hll
                  replace HL := Lib.hid HL
                  replace enl := Lib.hid enl
                  replace hl := Lib.hid hl
                  replace hv := Lib.hid hv
                  clear el
                  go_wp2_with fail
                  refine HL.out.mono ?_
                  rintro e w4 ⟨v4, rfl, r4, b4⟩
                  obtain ⟨A4, cap4, ev4, hE4, y1, y2, -⟩ := r4.slice0
                  subst ev4
                  rw [enl.out] at hE4 y1 ⊢
                  have M4 := Lib.hid (hM.out.below b4)
                  have r5 := M4.out.qs.rows k v l hv.out hl.out
                  obtain ⟨A5, cap5, ev5, hE5, u1, u2, -⟩ := r5.slice0
                  rw [enl.out] at ev5 hE5 u1
                  have mk : w4.cell? ⟨g, k, none⟩ = some (.slice A5 nl cap5) := by rw [← ev5]; exact (M4.out.qs.cell hv.out).1
                  replace hE4 := Lib.hid hE4
                  replace hE5 := Lib.hid hE5
                  clear r4 r5 b4 HL hM ev5
                  have z0 : ((nl : Int) != (nl : Int)) = false := by simp
                  go_wp2_with fail
                  go_loopw [19] (fun mv wx => ∃ j : Nat, mv = .int .i64 j ∧ j ≤ nl ∧ ∃ q, wx = w4.drewN q) (fun mv _ => (nl - intOf mv).toNat)
                  case atStart => exact ⟨0, rfl, by omega, 0, rfl⟩
                  case round => as_aux_lemma =>
                    obtain ⟨j, rfl, hj, q, rfl⟩ := hrel
                    by_cases hjl : j < nl
                    · have d1 : decide ((j : Int) < (nl : Int)) = true := decide_eq_true (by omega)
                      have d1' : decide (j < nl) = true := decide_eq_true hjl
                      have d3 : (j : Int) < (nl : Int) := by omega
                      obtain ⟨e, he⟩ : ∃ e, l[j]? = some e := ⟨_, List.getElem?_eq_getElem (by rw [enl.out]; exact hjl)⟩
                      obtain ⟨ba, oa, rfl, c0, c1, c2, c3⟩ := hE4.out.2 j e he
                      obtain ⟨bb, ob, rfl, e0, e1, e2, e3⟩ := hE5.out.2 j e he
                      obtain ⟨em, ei, ex, et⟩ := e
                      simp only at c0 c1 c2 c3 e0 e1 e2 e3
                      have hne := en_neq_self (em : Int) ei ex et
                      clear he
                      go_wp2_with fail
                      go_quiet (fail)
                      go_wp2_with fail
                      go_roundw
                      case rel => exact ⟨j + 1, by go_num, by omega, _, rfl⟩
                      case measure => simp [intOf]; omega
                    · obtain rfl : j = nl := by omega
                      have d1 : decide ((j : Int) < (j : Int)) = false := by simp
                      have d1' : decide (j < j) = false := by simp
                      have M5 := Lib.hid (M4.out.below (wy := w4.drewN q) ⟨rfl, rfl, rfl, Nat.le_refl _, fun _ _ => rfl⟩)
                      clear M4 mk hE4 hE5
                      go_wp2_with fail
                      go_roundw
                      case rel => exact ⟨k + 1, by go_num, by omega, M5⟩
                      case measure => simp [intOf]; omega
                · obtain rfl : k = 3 := by omega
                  have h3 := count_all st2.U
                  rw [← hcnt.out, hM.out.len] at h3
                  have HF := Free_any B c F st2 wz (Lib.hid hM.out.ar)
                  obtain ⟨fr, e2⟩ : ∃ n, st2.U.count false = n := ⟨_, rfl⟩
                  rw [e2] at HF h3
                  have z2 : ((fr : Int) != (R : Int) - (m2 : Int)) = false := by
                    have : (fr : Int) = (R : Int) - (m2 : Int) := by omega
                    rw [this]; simp
                  have bfr : fr ≤ 4096 := by omega
                  replace HF := Lib.hid HF
                  clear e2 h3 hlt
                  go_wp2_with fail
                  refine HF.out.mono ?_
                  rintro e w6 ⟨rfl, rfl⟩
                  go_wp2_with fail
                  go_roundw
                  case rel => first | exact ⟨i + 1, st2, V2, m2, by go_num, rfl, by omega, by omega, by omega, hcnt, hM⟩ | ((repeat apply Exists.intro); refine ⟨?_, rfl⟩; exact ⟨i + 1, st2, V2, m2, by go_num, rfl, by omega, by omega, by omega, hcnt, hM⟩)
                  case measure => simp [intOf]; omega
        · have HK := Lib.hid (Known_any wr)
          have fin : Hid (∀ w', Below wr.heap.size wr w' → Below w.heap.size w w') := Lib.hid (fun w' b => by
            rw [eB.out]; exact hM.out.bel.trans (b.mono (by have h3 := hM.out.gB; have h4 := hM.out.qs.gb; have h5 := hM.out.bsz; omega)))
          by_cases c1 : i < n
          · have e60 : i = 60 := by omega
            subst e60
            have d1 : decide ((60 : Int) < (n : Int)) = true := decide_eq_true (by omega)
            have d1' : decide (60 < n) = true := decide_eq_true c1
            clear hc hi2
            go_wp2_with fail
            refine HK.out.mono ?_
            rintro e w5 ⟨rfl, b5⟩
            go_wp2_with fail
            go_ret
            exact ⟨rfl, fin.out _ b5⟩
          · obtain rfl : i = n := by omega
            have d1 : decide ((i : Int) < (i : Int)) = false := decide_eq_false (by omega)
            have d1' : decide (i < i) = false := decide_eq_false (by omega)
            clear hc
            go_wp2_with fail
            refine HK.out.mono ?_
            rintro e w5 ⟨rfl, b5⟩
            go_wp2_with fail
            go_ret
            exact ⟨rfl, fin.out _ b5⟩
end Go.Proofs.Ytcfmnmknbebfnaa
