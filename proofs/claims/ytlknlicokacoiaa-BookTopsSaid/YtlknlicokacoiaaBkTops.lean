/-
  The walk of BookTops.
-/
import Derived.Test.YtlknlicokacoiaaBkTops0
import Derived.Test.YtlknlicokacoiaaOpenAsk9
import Derived.Deep.CutBlock
namespace Go.Proofs.Ytlknlicokacoiaa
open Go.RowKit
set_option linter.unusedVariables false
set_option linter.unusedSimpArgs false
set_option linter.constructorNameAsVariable false

/-- The law's world behind i asks: its book, and its tops in block tb. -/
def TopAt (B b tb i : Nat) (w wy : World) : Prop := ∃ (G : Nat → Prop) (L : List Or) (t1 t2 : Int), BK B b G L wy ∧ Tp i L t1 t2 ∧ ¬ G tb ∧ wy.heap[tb]? = some (.cells #[.int .i64 0, .int .i64 t1, .int .i64 t2] 51 (0, 0)) ∧ Below B w wy
theorem TopAt.below {B b tb i : Nat} {w wy wz : World} (h : TopAt B b tb i w wy) (hb : Below wy.heap.size wy wz) : TopAt B b tb i w wz := by
  obtain ⟨G, L, t1, t2, h1, h2, h3, h4, h5⟩ := h
  exact ⟨G, L, t1, t2, h1.below hb, h2, h3, (hb.block tb (Array.getElem?_eq_some_iff.1 h4).1).trans h4, h5.trans (hb.mono h1.size)⟩
set_option maxRecDepth 100000 in
set_option maxHeartbeats 8000000 in
theorem BTops_walk (A : Option Addr) (n cap : Nat) (L : List Ask) (w : World) (hA : Hid (HK w A n L)) (hAt : Hid (∀ ad, A = some ad → ad.block < w.heap.size)) (hO : Hid (OkK L)) (p1 : n ≤ cap) (p2 : cap ≤ 9223372036854775807) :
    Calls Try.prog 8 #[.slice A n cap] w fun e w' => e = .returned (.bool true) ∧ Below w.heap.size w w' := by
  have HN := Lib.hid (BNew_any w)
  obtain ⟨B, eB⟩ : ∃ B, w.heap.size = B := ⟨_, rfl⟩
  unfold NewBK at HN
  rw [eB] at HN hAt ⊢
  replace eB := Lib.hid eB
  go_enter Try.func8, Try.ntmps8
  go_wp2_with fail
  refine HN.out.mono ?_
  rintro e w1 ⟨b, G, rfl, a1, b1⟩
  obtain ⟨tb, etb⟩ : ∃ g, w1.heap.size = g := ⟨_, rfl⟩
  obtain ⟨W1, eW1⟩ : ∃ X, w1.alloc (.cells #[.int .i64 0, .int .i64 0, .int .i64 0] 51) = X := ⟨_, rfl⟩
  have hBt : Hid (B ≤ tb) := Lib.hid (by have := a1.size; omega)
  have hal : Below w1.heap.size w1 W1 := by rw [← eW1]; exact (Below.refl _ _).alloc (Nat.le_refl _) _
  have hT : Hid (TopAt B b tb 0 w W1) := Lib.hid ⟨G, [], 0, 0, a1.below hal, tp_zero, fun e => by have := (a1.lt e).2; omega, by rw [← eW1, ← etb]; exact heap_alloc_new w1 _, b1.trans (hal.mono a1.size)⟩
  replace hal := Lib.hid hal
  clear a1 b1
  go_wp2_with fail
  (try rw [eW1])
  (try rw [etb])
  have htB := Lib.hid etb
  have heW := Lib.hid eW1
  clear etb eW1
  go_loopw [5] (fun iv wr => ∃ (i : Nat), iv = .int .i64 i ∧ i ≤ n ∧ i ≤ 60 ∧ Hid (TopAt B b tb i w wr)) (fun iv _ => (60 - intOf iv).toNat)
  case atStart => exact ⟨0, rfl, by omega, by omega, hT⟩
  case round =>
    clear hT
    rename World => wo
    obtain ⟨i, rfl, hi1, hi2, hT⟩ := hrel
    by_cases hc : i < n ∧ i < 60
    · obtain ⟨c1, c2⟩ := hc
      have d1 : decide ((i : Int) < (n : Int)) = true := decide_eq_true (by omega)
      have d1' : decide (i < n) = true := decide_eq_true c1
      have d2 : decide ((i : Int) < 60) = true := decide_eq_true (by omega)
      have d3 : (i : Int) < (n : Int) := by omega
      obtain ⟨G, L0, t1, t2, hK', hP', hG', hg', hB'⟩ := hT.out
      have hK := Lib.hid hK'
      have hP := Lib.hid hP'
      have hG := Lib.hid hG'
      have hg := Lib.hid hg'
      have hB := Lib.hid hB'
      clear hK' hP' hG' hg' hB' hT
      obtain ⟨x, hx⟩ : ∃ x, L[i]? = some x := ⟨_, List.getElem?_eq_getElem (by rw [hA.out.1]; exact c1)⟩
      obtain ⟨xk, xs, xi, xp, xn⟩ := hO.out x (List.mem_of_getElem? hx)
      have hKX := hA.out.belowB hAt.out hB.out
      obtain ⟨ob, off, rfl, e0, e1, e2, e3, e4⟩ := hKX.2 i x hx
      obtain ⟨kk, s0, ii, p0, m⟩ := x
      simp only at xk xs xi xp xn e0 e1 e2 e3 e4
      replace hx := Lib.hid hx
      have HW1 := Within_any s0 1 wo (by omega) xs.1 xs.2
      have HW2 := Within_any p0 6 wo (by omega) xp.1 xp.2
      have hk1 := withinN_le s0 1
      have hk2 := withinN_le p0 6
      obtain ⟨k1, ek1⟩ : ∃ k, withinN s0 1 = k := ⟨_, rfl⟩
      obtain ⟨k2, ek2⟩ : ∃ k, withinN p0 6 = k := ⟨_, rfl⟩
      rw [ek1] at HW1 hk1
      rw [ek2] at HW2 hk2
      replace HW1 := Lib.hid HW1
      replace HW2 := Lib.hid HW2
      have hii : I64 ii := xi
      replace hKX := Lib.hid hKX
      clear ek1 ek2 xk xs xi xp xn
      have hk01 : k1 = 0 ∨ k1 = 1 := by omega
      clear hk1
      rcases hk01 with rfl | rfl
      · have HB := BBest_any B b G L0 1 wo hK
        obtain ⟨⟨⟨bp, bn, bc⟩, any⟩, eb⟩ : ∃ q, bestO L0 1 = q := ⟨_, rfl⟩
        rw [eb] at HB
        simp only [Lv.val, Lv.cells] at HB
        have htop := topB_best hK.out.lok 1 (k2 : Int)
        rw [eb] at htop
        replace htop := Lib.hid htop
        replace HB := Lib.hid HB
        replace eb := Lib.hid eb
        go_wp2_with fail
        refine HW1.out.mono ?_
        rintro e wq ⟨rfl, ew⟩
        obtain rfl := ew.symm
        go_wp2_with fail
        refine HW2.out.mono ?_
        rintro e wq ⟨rfl, ew⟩
        obtain rfl := ew.symm
        go_wp2_with fail
        refine HB.out.mono ?_
        rintro e wb ⟨rfl, bb⟩
        obtain ⟨lb, elb⟩ : ∃ g, wb.heap.size = g := ⟨_, rfl⟩
        obtain ⟨wx, ewx⟩ : ∃ X, wb.alloc (.cells #[.int .i64 bp, .int .i64 bn, .int .i64 bc] 47) = X := ⟨_, rfl⟩
        have bx : Below wo.heap.size wo wx := bb.trans (by rw [← ewx]; exact ((Below.refl _ wb).alloc (Nat.le_refl _) _).mono bb.size)
        have hglb : wx.heap[lb]? = some (.cells #[.int .i64 bp, .int .i64 bn, .int .i64 bc] 47 (0, 0)) := by rw [← ewx, ← elb]; exact heap_alloc_new wb _
        have hKx := Lib.hid (hK.out.below bx)
        have Bx := Lib.hid (hB.out.trans (bx.mono hK.out.size))
        have hgx := Lib.hid ((bx.block tb (Array.getElem?_eq_some_iff.1 hg.out).1).trans hg.out)
        have htl : Hid (tb < wx.heap.size) := Lib.hid (Array.getElem?_eq_some_iff.1 hgx.out).1
        have hll : Hid (lb < wx.heap.size ∧ ¬ G lb) := Lib.hid ⟨(Array.getElem?_eq_some_iff.1 hglb).1, fun e => by have := (hK.out.lt e).2; have := bb.size; omega⟩
        obtain ⟨ob', off', eo, x0, x1, x2, x3, x4⟩ := (hA.out.belowB hAt.out Bx.out).2 i _ hx.out
        injection eo with eo
        injection eo with eo1 eo2
        subst eo1
        subst eo2
        simp only at x0 x1 x2 x3 x4
        replace hglb := Lib.hid hglb
        replace bx := Lib.hid bx
        replace bb := Lib.hid bb
        clear HB HW1 HW2 hK hB hg e0 e1 e2 e3 e4
        go_upto_if 50 with (fail)
        go_cut [6] from 44 to 92 (fun sv wy => sv = .int .i64 1 ∧ Hid (TopAt B b tb (i + 1) w wy))
        case first =>
          by_cases hk : kk.tmod 4 = 0
          · have dk : (kk.tmod 4 != 0) = false := by simpa using hk
            replace hk := Lib.hid hk
            have HW3 := Lib.hid (Within_any ii i wx (by omega) hii.1 hii.2)
            have HF := BFill_any B b G L0 ((withinN ii i : Nat) : Int) 5 wx hKx ⟨by omega, by omega⟩
            have hTf := Lib.hid (hP.out.fill ((withinN ii i : Nat) : Int))
            obtain ⟨⟨f, L3⟩, ef⟩ : ∃ q, fillO L0 ((withinN ii i : Nat) : Int) 5 = q := ⟨_, rfl⟩
            rw [ef] at HF
            replace hTf := hTf.out
            rw [ef] at hTf
            replace hTf := Lib.hid hTf
            replace HF := Lib.hid HF
            replace ef := Lib.hid ef
            obtain ⟨wi, ewi⟩ : ∃ k, withinN ii i = k := ⟨_, rfl⟩
            rw [ewi] at HF HW3
            replace ewi := Lib.hid ewi
            go_wp2_with fail
            refine HW3.out.mono ?_
            rintro e wq ⟨rfl, ew⟩
            obtain rfl := ew.symm
            go_wp2_with fail
            refine HF.out.mono ?_
            rintro e w3 ⟨G3, rfl, hK3', o3', n3⟩
            have hT5 : Hid (TopAt B b tb (i + 1) w w3) := Lib.hid (by
              refine ⟨G3, L3, t1, t2, hK3', hTf.out, ?_, (o3'.block tb htl.out (fun e => hG.out e)).trans hgx.out, Bx.out.trans (hKx.out.mine o3')⟩
              intro e
              rcases n3 tb e with k3 | k3
              · exact hG.out k3
              · have := htl.out; omega)
            clear hK3' o3' n3
            go_wp2_with fail
            go_meet
            exact ⟨rfl, hT5⟩
          · have dk : (kk.tmod 4 != 0) = true := by simpa using hk
            replace hk := Lib.hid hk
            have HAd := BAdd_any B b G L0 ((i : Int) + 1) 1 (k2 : Int) 5 wx hKx (Lib.hid ⟨by omega, by omega⟩) (Lib.hid ⟨by omega, by omega⟩)
            have hT1 := Lib.hid (hP.out.add c2 (show ((1 : Int) = 1 ∨ (1 : Int) = 2) by decide) (k2 : Int))
            rw [hT1.out.1] at HAd
            replace HAd := Lib.hid HAd
            go_wp2_with fail
            refine HAd.out.mono ?_
            rintro e w3 ⟨G3, rfl, hK3', o3', n3⟩
            have hK3 := Lib.hid hK3'
            have B3 := Lib.hid (Bx.out.trans (hKx.out.mine o3'))
            have hlb3 : w3.heap[lb]? = some (.cells #[.int .i64 bp, .int .i64 bn, .int .i64 bc] 47 (0, 0)) := (o3'.block lb hll.out.1 hll.out.2).trans hglb.out
            obtain ⟨⟨l0, l1, l2⟩, -⟩ := row3 hlb3
            replace hlb3 := Lib.hid hlb3
            replace n3 := Lib.hid n3
            clear hK3' x0 x1 x2 x3 x4 HAd
            simp only
            cases any with
            | false =>
              have htb2 : Hid (topB L0 1 (k2 : Int) = true) := Lib.hid (by rw [htop.out]; rfl)
              have kg3 : w3.heap[tb]? = some (.cells #[.int .i64 0, .int .i64 t1, .int .i64 t2] 51 (0, 0)) := (o3'.block tb htl.out (fun e => hG.out e)).trans hgx.out
              obtain ⟨⟨m0, m1, m2⟩, -⟩ := row3 kg3
              have z1 := Lib.frozen_of_heap kg3 1
              have hT5 : Hid (TopAt B b tb (i + 1) w (w3.setCell ⟨tb, 1, none⟩ (.int .i64 ((i : Int) + 1)))) := Lib.hid (by
                have hsz := hK3.out.size
                refine ⟨G3, _, _, _, hK3.out.only (set_only w3 tb 1 _) (fun k hk e => ?_), hT1.out.2, ?_, (heap_setCell_same w3 tb 1 _ _ (.int .i64 ((i : Int) + 1)) kg3).trans ?_, B3.out.setCell (p := ⟨tb, 1, none⟩) hBt.out _⟩
                · have e' : k = tb := e
                  subst e'
                  rcases n3.out k hk with k3 | k3
                  · exact hG.out k3
                  · have := htl.out; omega
                · intro e
                  rcases n3.out tb e with k3 | k3
                  · exact hG.out k3
                  · have := htl.out; omega
                · rw [htb2.out]; rfl)
              replace kg3 := Lib.hid kg3
              go_wp2_with fail
              all_goals (go_meet; exact ⟨rfl, hT5⟩)
            | true =>
              by_cases hb : bp < (k2 : Int)
              · have db : decide (bp < (k2 : Int)) = true := decide_eq_true hb
                have htb2 : Hid (topB L0 1 (k2 : Int) = true) := Lib.hid (by rw [htop.out]; exact db)
                have kg3 : w3.heap[tb]? = some (.cells #[.int .i64 0, .int .i64 t1, .int .i64 t2] 51 (0, 0)) := (o3'.block tb htl.out (fun e => hG.out e)).trans hgx.out
                obtain ⟨⟨m0, m1, m2⟩, -⟩ := row3 kg3
                have z1 := Lib.frozen_of_heap kg3 1
                have hT5 : Hid (TopAt B b tb (i + 1) w (w3.setCell ⟨tb, 1, none⟩ (.int .i64 ((i : Int) + 1)))) := Lib.hid (by
                  have hsz := hK3.out.size
                  refine ⟨G3, _, _, _, hK3.out.only (set_only w3 tb 1 _) (fun k hk e => ?_), hT1.out.2, ?_, (heap_setCell_same w3 tb 1 _ _ (.int .i64 ((i : Int) + 1)) kg3).trans ?_, B3.out.setCell (p := ⟨tb, 1, none⟩) hBt.out _⟩
                  · have e' : k = tb := e
                    subst e'
                    rcases n3.out k hk with k3 | k3
                    · exact hG.out k3
                    · have := htl.out; omega
                  · intro e
                    rcases n3.out tb e with k3 | k3
                    · exact hG.out k3
                    · have := htl.out; omega
                  · rw [htb2.out]; rfl)
                replace kg3 := Lib.hid kg3
                go_wp2_with fail
                all_goals (go_meet; exact ⟨rfl, hT5⟩)
              · have db : decide (bp < (k2 : Int)) = false := decide_eq_false hb
                have htb2 : Hid (topB L0 1 (k2 : Int) = false) := Lib.hid (by rw [htop.out]; exact db)
                have kg3 : w3.heap[tb]? = some (.cells #[.int .i64 0, .int .i64 t1, .int .i64 t2] 51 (0, 0)) := (o3'.block tb htl.out (fun e => hG.out e)).trans hgx.out
                have hT5 : Hid (TopAt B b tb (i + 1) w w3) := Lib.hid (by
                  refine ⟨G3, _, _, _, hK3.out, hT1.out.2, ?_, kg3.trans ?_, B3.out⟩
                  · intro e
                    rcases n3.out tb e with k3 | k3
                    · exact hG.out k3
                    · have := htl.out; omega
                  · rw [htb2.out]; rfl)
                replace kg3 := Lib.hid kg3
                go_wp2_with fail
                go_meet
                exact ⟨rfl, hT5⟩
        case rest =>
          obtain ⟨rfl, hT2⟩ := hcut
          obtain ⟨G8, L8, t8, t9, kK, kP, kG, kg, kB⟩ := hT2.out
          have hK8 := Lib.hid kK
          have hP8 := Lib.hid kP
          have hg8 := Lib.hid kg
          have HO8 := Lib.hid (BOrders_any B b G8 L8 wc hK8)
          clear kK kP kG kg kB
          go_wp2_with fail
          refine HO8.out.mono ?_
          rintro e w8 ⟨v8, rfl, O8, b8⟩
          obtain ⟨A8, cap8, rfl, hv8, y1, y2, y3, y4⟩ := O8.slice
          obtain ⟨n8, en8⟩ : ∃ x, L8.length = x := ⟨_, rfl⟩
          rw [en8] at y1 hv8 ⊢
          have hl8 : n8 ≤ 61 := by have := hP8.out.len; omega
          have hT3 := Lib.hid (hT2.out.below b8)
          have kg8 : w8.heap[tb]? = some (.cells #[.int .i64 0, .int .i64 t8, .int .i64 t9] 51 (0, 0)) := (b8.block tb (Array.getElem?_eq_some_iff.1 hg8.out).1).trans hg8.out
          obtain ⟨⟨m0, m1, m2⟩, -⟩ := row3 kg8
          replace hv8 := Lib.hid hv8
          replace en8 := Lib.hid en8
          replace kg8 := Lib.hid kg8
          replace O8 := Lib.hid O8
          replace y3 := Lib.hid y3
          replace y4 := Lib.hid y4
          clear HO8 hT2 b8 hK8 hg8
          go_wp2_with fail
          go_loopw [11] (fun kv wx => ∃ k : Nat, kv = .int .i64 k ∧ k ≤ n8 ∧ ∃ q, wx = w8.drewN q) (fun kv _ => (n8 - intOf kv).toNat)
          case atStart => exact ⟨0, rfl, by omega, 0, rfl⟩
          case round =>
            obtain ⟨k, rfl, hk, q, rfl⟩ := hrel
            by_cases hlt : k < n8
            · have f1 : decide ((k : Int) < (n8 : Int)) = true := decide_eq_true (by omega)
              have f1' : decide (k < n8) = true := decide_eq_true hlt
              have f3 : (k : Int) < (n8 : Int) := by omega
              obtain ⟨z, hz⟩ : ∃ z, L8[k]? = some z := ⟨_, List.getElem?_eq_getElem (by rw [en8.out]; exact hlt)⟩
              obtain ⟨oa, oo, rfl, c0, c1', -, -, c4⟩ := hv8.out.atO hz
              have hzs := hP8.out.side z (List.mem_of_getElem? hz)
              have hzf := hP8.out.flag z (List.mem_of_getElem? hz)
              obtain ⟨zi, zs, zp, zn, zt⟩ := z
              simp only at c0 c1' c4 hzs hzf
              clear hz
              rcases hzs with rfl | rfl
              · have hzf' : zt = (t8 == zi) := hzf
                by_cases ht : t8 = zi
                · have dt : (t8 == zi) = true := by simpa using ht
                  rw [dt] at hzf'
                  subst hzf'
                  replace ht := Lib.hid ht
                  clear hzf
                  go_wp2_with fail
                  go_quiet (fail)
                  go_wp2_with fail
                  go_roundw
                  case rel => exact ⟨k + 1, by go_num, by omega, _, rfl⟩
                  case measure => simp [intOf]; omega
                · have dt : (t8 == zi) = false := by simpa using ht
                  rw [dt] at hzf'
                  subst hzf'
                  replace ht := Lib.hid ht
                  clear hzf
                  go_wp2_with fail
                  go_quiet (fail)
                  go_wp2_with fail
                  go_roundw
                  case rel => exact ⟨k + 1, by go_num, by omega, _, rfl⟩
                  case measure => simp [intOf]; omega
              · have hzf' : zt = (t9 == zi) := hzf
                by_cases ht : t9 = zi
                · have dt : (t9 == zi) = true := by simpa using ht
                  rw [dt] at hzf'
                  subst hzf'
                  replace ht := Lib.hid ht
                  clear hzf
                  go_wp2_with fail
                  go_quiet (fail)
                  go_wp2_with fail
                  go_roundw
                  case rel => exact ⟨k + 1, by go_num, by omega, _, rfl⟩
                  case measure => simp [intOf]; omega
                · have dt : (t9 == zi) = false := by simpa using ht
                  rw [dt] at hzf'
                  subst hzf'
                  replace ht := Lib.hid ht
                  clear hzf
                  go_wp2_with fail
                  go_quiet (fail)
                  go_wp2_with fail
                  go_roundw
                  case rel => exact ⟨k + 1, by go_num, by omega, _, rfl⟩
                  case measure => simp [intOf]; omega
            · obtain rfl : k = n8 := by omega
              have f1 : decide ((k : Int) < (k : Int)) = false := by simp
              have f1' : decide (k < k) = false := by simp
              have hT4 : Hid (TopAt B b tb (i + 1) w (w8.drewN q)) := Lib.hid (hT3.out.below ⟨rfl, rfl, rfl, Nat.le_refl _, fun _ _ => rfl⟩)
              go_wp2_with fail
              go_roundw
              case rel => exact ⟨i + 1, by go_num, by omega, by omega, hT4⟩
              case measure => simp [intOf]; omega
      · have HB := BBest_any B b G L0 2 wo hK
        obtain ⟨⟨⟨bp, bn, bc⟩, any⟩, eb⟩ : ∃ q, bestO L0 2 = q := ⟨_, rfl⟩
        rw [eb] at HB
        simp only [Lv.val, Lv.cells] at HB
        have htop := topB_best hK.out.lok 2 (k2 : Int)
        rw [eb] at htop
        replace htop := Lib.hid htop
        replace HB := Lib.hid HB
        replace eb := Lib.hid eb
        go_wp2_with fail
        refine HW1.out.mono ?_
        rintro e wq ⟨rfl, ew⟩
        obtain rfl := ew.symm
        go_wp2_with fail
        refine HW2.out.mono ?_
        rintro e wq ⟨rfl, ew⟩
        obtain rfl := ew.symm
        go_wp2_with fail
        refine HB.out.mono ?_
        rintro e wb ⟨rfl, bb⟩
        obtain ⟨lb, elb⟩ : ∃ g, wb.heap.size = g := ⟨_, rfl⟩
        obtain ⟨wx, ewx⟩ : ∃ X, wb.alloc (.cells #[.int .i64 bp, .int .i64 bn, .int .i64 bc] 47) = X := ⟨_, rfl⟩
        have bx : Below wo.heap.size wo wx := bb.trans (by rw [← ewx]; exact ((Below.refl _ wb).alloc (Nat.le_refl _) _).mono bb.size)
        have hglb : wx.heap[lb]? = some (.cells #[.int .i64 bp, .int .i64 bn, .int .i64 bc] 47 (0, 0)) := by rw [← ewx, ← elb]; exact heap_alloc_new wb _
        have hKx := Lib.hid (hK.out.below bx)
        have Bx := Lib.hid (hB.out.trans (bx.mono hK.out.size))
        have hgx := Lib.hid ((bx.block tb (Array.getElem?_eq_some_iff.1 hg.out).1).trans hg.out)
        have htl : Hid (tb < wx.heap.size) := Lib.hid (Array.getElem?_eq_some_iff.1 hgx.out).1
        have hll : Hid (lb < wx.heap.size ∧ ¬ G lb) := Lib.hid ⟨(Array.getElem?_eq_some_iff.1 hglb).1, fun e => by have := (hK.out.lt e).2; have := bb.size; omega⟩
        obtain ⟨ob', off', eo, x0, x1, x2, x3, x4⟩ := (hA.out.belowB hAt.out Bx.out).2 i _ hx.out
        injection eo with eo
        injection eo with eo1 eo2
        subst eo1
        subst eo2
        simp only at x0 x1 x2 x3 x4
        replace hglb := Lib.hid hglb
        replace bx := Lib.hid bx
        replace bb := Lib.hid bb
        clear HB HW1 HW2 hK hB hg e0 e1 e2 e3 e4
        go_upto_if 50 with (fail)
        go_cut [6] from 44 to 92 (fun sv wy => sv = .int .i64 2 ∧ Hid (TopAt B b tb (i + 1) w wy))
        case first =>
          by_cases hk : kk.tmod 4 = 0
          · have dk : (kk.tmod 4 != 0) = false := by simpa using hk
            replace hk := Lib.hid hk
            have HW3 := Lib.hid (Within_any ii i wx (by omega) hii.1 hii.2)
            have HF := BFill_any B b G L0 ((withinN ii i : Nat) : Int) 5 wx hKx ⟨by omega, by omega⟩
            have hTf := Lib.hid (hP.out.fill ((withinN ii i : Nat) : Int))
            obtain ⟨⟨f, L3⟩, ef⟩ : ∃ q, fillO L0 ((withinN ii i : Nat) : Int) 5 = q := ⟨_, rfl⟩
            rw [ef] at HF
            replace hTf := hTf.out
            rw [ef] at hTf
            replace hTf := Lib.hid hTf
            replace HF := Lib.hid HF
            replace ef := Lib.hid ef
            obtain ⟨wi, ewi⟩ : ∃ k, withinN ii i = k := ⟨_, rfl⟩
            rw [ewi] at HF HW3
            replace ewi := Lib.hid ewi
            go_wp2_with fail
            refine HW3.out.mono ?_
            rintro e wq ⟨rfl, ew⟩
            obtain rfl := ew.symm
            go_wp2_with fail
            refine HF.out.mono ?_
            rintro e w3 ⟨G3, rfl, hK3', o3', n3⟩
            have hT5 : Hid (TopAt B b tb (i + 1) w w3) := Lib.hid (by
              refine ⟨G3, L3, t1, t2, hK3', hTf.out, ?_, (o3'.block tb htl.out (fun e => hG.out e)).trans hgx.out, Bx.out.trans (hKx.out.mine o3')⟩
              intro e
              rcases n3 tb e with k3 | k3
              · exact hG.out k3
              · have := htl.out; omega)
            clear hK3' o3' n3
            go_wp2_with fail
            go_meet
            exact ⟨rfl, hT5⟩
          · have dk : (kk.tmod 4 != 0) = true := by simpa using hk
            replace hk := Lib.hid hk
            have HAd := BAdd_any B b G L0 ((i : Int) + 1) 2 (k2 : Int) 5 wx hKx (Lib.hid ⟨by omega, by omega⟩) (Lib.hid ⟨by omega, by omega⟩)
            have hT1 := Lib.hid (hP.out.add c2 (show ((2 : Int) = 1 ∨ (2 : Int) = 2) by decide) (k2 : Int))
            rw [hT1.out.1] at HAd
            replace HAd := Lib.hid HAd
            go_wp2_with fail
            refine HAd.out.mono ?_
            rintro e w3 ⟨G3, rfl, hK3', o3', n3⟩
            have hK3 := Lib.hid hK3'
            have B3 := Lib.hid (Bx.out.trans (hKx.out.mine o3'))
            have hlb3 : w3.heap[lb]? = some (.cells #[.int .i64 bp, .int .i64 bn, .int .i64 bc] 47 (0, 0)) := (o3'.block lb hll.out.1 hll.out.2).trans hglb.out
            obtain ⟨⟨l0, l1, l2⟩, -⟩ := row3 hlb3
            replace hlb3 := Lib.hid hlb3
            replace n3 := Lib.hid n3
            clear hK3' x0 x1 x2 x3 x4 HAd
            simp only
            cases any with
            | false =>
              have htb2 : Hid (topB L0 2 (k2 : Int) = true) := Lib.hid (by rw [htop.out]; rfl)
              have kg3 : w3.heap[tb]? = some (.cells #[.int .i64 0, .int .i64 t1, .int .i64 t2] 51 (0, 0)) := (o3'.block tb htl.out (fun e => hG.out e)).trans hgx.out
              obtain ⟨⟨m0, m1, m2⟩, -⟩ := row3 kg3
              have z2 := Lib.frozen_of_heap kg3 2
              have hT5 : Hid (TopAt B b tb (i + 1) w (w3.setCell ⟨tb, 2, none⟩ (.int .i64 ((i : Int) + 1)))) := Lib.hid (by
                have hsz := hK3.out.size
                refine ⟨G3, _, _, _, hK3.out.only (set_only w3 tb 2 _) (fun k hk e => ?_), hT1.out.2, ?_, (heap_setCell_same w3 tb 2 _ _ (.int .i64 ((i : Int) + 1)) kg3).trans ?_, B3.out.setCell (p := ⟨tb, 2, none⟩) hBt.out _⟩
                · have e' : k = tb := e
                  subst e'
                  rcases n3.out k hk with k3 | k3
                  · exact hG.out k3
                  · have := htl.out; omega
                · intro e
                  rcases n3.out tb e with k3 | k3
                  · exact hG.out k3
                  · have := htl.out; omega
                · rw [htb2.out]; rfl)
              replace kg3 := Lib.hid kg3
              go_wp2_with fail
              all_goals (go_meet; exact ⟨rfl, hT5⟩)
            | true =>
              by_cases hb : (k2 : Int) < bp
              · have db : decide ((k2 : Int) < bp) = true := decide_eq_true hb
                have htb2 : Hid (topB L0 2 (k2 : Int) = true) := Lib.hid (by rw [htop.out]; exact db)
                have kg3 : w3.heap[tb]? = some (.cells #[.int .i64 0, .int .i64 t1, .int .i64 t2] 51 (0, 0)) := (o3'.block tb htl.out (fun e => hG.out e)).trans hgx.out
                obtain ⟨⟨m0, m1, m2⟩, -⟩ := row3 kg3
                have z2 := Lib.frozen_of_heap kg3 2
                have hT5 : Hid (TopAt B b tb (i + 1) w (w3.setCell ⟨tb, 2, none⟩ (.int .i64 ((i : Int) + 1)))) := Lib.hid (by
                  have hsz := hK3.out.size
                  refine ⟨G3, _, _, _, hK3.out.only (set_only w3 tb 2 _) (fun k hk e => ?_), hT1.out.2, ?_, (heap_setCell_same w3 tb 2 _ _ (.int .i64 ((i : Int) + 1)) kg3).trans ?_, B3.out.setCell (p := ⟨tb, 2, none⟩) hBt.out _⟩
                  · have e' : k = tb := e
                    subst e'
                    rcases n3.out k hk with k3 | k3
                    · exact hG.out k3
                    · have := htl.out; omega
                  · intro e
                    rcases n3.out tb e with k3 | k3
                    · exact hG.out k3
                    · have := htl.out; omega
                  · rw [htb2.out]; rfl)
                replace kg3 := Lib.hid kg3
                go_wp2_with fail
                all_goals (go_meet; exact ⟨rfl, hT5⟩)
              · have db : decide ((k2 : Int) < bp) = false := decide_eq_false hb
                have htb2 : Hid (topB L0 2 (k2 : Int) = false) := Lib.hid (by rw [htop.out]; exact db)
                have kg3 : w3.heap[tb]? = some (.cells #[.int .i64 0, .int .i64 t1, .int .i64 t2] 51 (0, 0)) := (o3'.block tb htl.out (fun e => hG.out e)).trans hgx.out
                have hT5 : Hid (TopAt B b tb (i + 1) w w3) := Lib.hid (by
                  refine ⟨G3, _, _, _, hK3.out, hT1.out.2, ?_, kg3.trans ?_, B3.out⟩
                  · intro e
                    rcases n3.out tb e with k3 | k3
                    · exact hG.out k3
                    · have := htl.out; omega
                  · rw [htb2.out]; rfl)
                replace kg3 := Lib.hid kg3
                go_wp2_with fail
                go_meet
                exact ⟨rfl, hT5⟩
        case rest =>
          obtain ⟨rfl, hT2⟩ := hcut
          obtain ⟨G8, L8, t8, t9, kK, kP, kG, kg, kB⟩ := hT2.out
          have hK8 := Lib.hid kK
          have hP8 := Lib.hid kP
          have hg8 := Lib.hid kg
          have HO8 := Lib.hid (BOrders_any B b G8 L8 wc hK8)
          clear kK kP kG kg kB
          go_wp2_with fail
          refine HO8.out.mono ?_
          rintro e w8 ⟨v8, rfl, O8, b8⟩
          obtain ⟨A8, cap8, rfl, hv8, y1, y2, y3, y4⟩ := O8.slice
          obtain ⟨n8, en8⟩ : ∃ x, L8.length = x := ⟨_, rfl⟩
          rw [en8] at y1 hv8 ⊢
          have hl8 : n8 ≤ 61 := by have := hP8.out.len; omega
          have hT3 := Lib.hid (hT2.out.below b8)
          have kg8 : w8.heap[tb]? = some (.cells #[.int .i64 0, .int .i64 t8, .int .i64 t9] 51 (0, 0)) := (b8.block tb (Array.getElem?_eq_some_iff.1 hg8.out).1).trans hg8.out
          obtain ⟨⟨m0, m1, m2⟩, -⟩ := row3 kg8
          replace hv8 := Lib.hid hv8
          replace en8 := Lib.hid en8
          replace kg8 := Lib.hid kg8
          replace O8 := Lib.hid O8
          replace y3 := Lib.hid y3
          replace y4 := Lib.hid y4
          clear HO8 hT2 b8 hK8 hg8
          go_wp2_with fail
          go_loopw [11] (fun kv wx => ∃ k : Nat, kv = .int .i64 k ∧ k ≤ n8 ∧ ∃ q, wx = w8.drewN q) (fun kv _ => (n8 - intOf kv).toNat)
          case atStart => exact ⟨0, rfl, by omega, 0, rfl⟩
          case round =>
            obtain ⟨k, rfl, hk, q, rfl⟩ := hrel
            by_cases hlt : k < n8
            · have f1 : decide ((k : Int) < (n8 : Int)) = true := decide_eq_true (by omega)
              have f1' : decide (k < n8) = true := decide_eq_true hlt
              have f3 : (k : Int) < (n8 : Int) := by omega
              obtain ⟨z, hz⟩ : ∃ z, L8[k]? = some z := ⟨_, List.getElem?_eq_getElem (by rw [en8.out]; exact hlt)⟩
              obtain ⟨oa, oo, rfl, c0, c1', -, -, c4⟩ := hv8.out.atO hz
              have hzs := hP8.out.side z (List.mem_of_getElem? hz)
              have hzf := hP8.out.flag z (List.mem_of_getElem? hz)
              obtain ⟨zi, zs, zp, zn, zt⟩ := z
              simp only at c0 c1' c4 hzs hzf
              clear hz
              rcases hzs with rfl | rfl
              · have hzf' : zt = (t8 == zi) := hzf
                by_cases ht : t8 = zi
                · have dt : (t8 == zi) = true := by simpa using ht
                  rw [dt] at hzf'
                  subst hzf'
                  replace ht := Lib.hid ht
                  clear hzf
                  go_wp2_with fail
                  go_quiet (fail)
                  go_wp2_with fail
                  go_roundw
                  case rel => exact ⟨k + 1, by go_num, by omega, _, rfl⟩
                  case measure => simp [intOf]; omega
                · have dt : (t8 == zi) = false := by simpa using ht
                  rw [dt] at hzf'
                  subst hzf'
                  replace ht := Lib.hid ht
                  clear hzf
                  go_wp2_with fail
                  go_quiet (fail)
                  go_wp2_with fail
                  go_roundw
                  case rel => exact ⟨k + 1, by go_num, by omega, _, rfl⟩
                  case measure => simp [intOf]; omega
              · have hzf' : zt = (t9 == zi) := hzf
                by_cases ht : t9 = zi
                · have dt : (t9 == zi) = true := by simpa using ht
                  rw [dt] at hzf'
                  subst hzf'
                  replace ht := Lib.hid ht
                  clear hzf
                  go_wp2_with fail
                  go_quiet (fail)
                  go_wp2_with fail
                  go_roundw
                  case rel => exact ⟨k + 1, by go_num, by omega, _, rfl⟩
                  case measure => simp [intOf]; omega
                · have dt : (t9 == zi) = false := by simpa using ht
                  rw [dt] at hzf'
                  subst hzf'
                  replace ht := Lib.hid ht
                  clear hzf
                  go_wp2_with fail
                  go_quiet (fail)
                  go_wp2_with fail
                  go_roundw
                  case rel => exact ⟨k + 1, by go_num, by omega, _, rfl⟩
                  case measure => simp [intOf]; omega
            · obtain rfl : k = n8 := by omega
              have f1 : decide ((k : Int) < (k : Int)) = false := by simp
              have f1' : decide (k < k) = false := by simp
              have hT4 : Hid (TopAt B b tb (i + 1) w (w8.drewN q)) := Lib.hid (hT3.out.below ⟨rfl, rfl, rfl, Nat.le_refl _, fun _ _ => rfl⟩)
              go_wp2_with fail
              go_roundw
              case rel => exact ⟨i + 1, by go_num, by omega, by omega, hT4⟩
              case measure => simp [intOf]; omega
    · have HKn := Lib.hid (BKnown_any wo)
      obtain ⟨G, L0, t1, t2, hK, hP, hG, hg, hB⟩ := hT.out
      have hKs := hK.size
      replace hK := Lib.hid hK
      replace hB := Lib.hid hB
      replace hg := Lib.hid hg
      replace hG := Lib.hid hG
      by_cases hin : i < n
      · have d1 : decide ((i : Int) < (n : Int)) = true := decide_eq_true (by omega)
        have d1' : decide (i < n) = true := decide_eq_true hin
        have d2 : decide ((i : Int) < 60) = false := decide_eq_false (by omega)
        go_wp2_with fail
        refine HKn.out.mono ?_
        rintro e w9 ⟨rfl, b9⟩
        replace b9 := Lib.hid b9
        go_wp2_with fail
        go_ret
        exact ⟨rfl, hB.out.trans (b9.out.mono hKs)⟩
      · have d1 : decide ((i : Int) < (n : Int)) = false := decide_eq_false (by omega)
        have d1' : decide (i < n) = false := decide_eq_false hin
        go_wp2_with fail
        refine HKn.out.mono ?_
        rintro e w9 ⟨rfl, b9⟩
        replace b9 := Lib.hid b9
        go_wp2_with fail
        go_ret
        exact ⟨rfl, hB.out.trans (b9.out.mono hKs)⟩
end Go.Proofs.Ytlknlicokacoiaa
