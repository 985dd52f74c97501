/-
  The law AllocTells: its walk.
-/
import Derived.Test.YtabogoonbapjiaaAlKnown
import Derived.Test.YtabogoonbapjiaaAlSome
import Derived.Deep.RegionHeld3
import Derived.Deep.Cut
namespace Go.Proofs.Ytabogoonbapjiaa
open Go.RowKit
set_option linter.unusedVariables false
set_option linter.unusedSimpArgs false

set_option maxRecDepth 100000 in
set_option maxHeartbeats 8000000 in
theorem ATells_walk (p : PD) (A : Option Addr) (n cap : Nat) (L : List Or) (q small : Int) (w : World) (hp : Hid (p.Fit w)) (h : Hid (HV fO w A n L)) (hok : Hid (OkO L)) (hl : n ≤ cap) (hcap : cap ≤ 9223372036854775807) (q1 : -9223372036854775808 ≤ q) (q2 : q ≤ 9223372036854775807) (s1 : -9223372036854775808 ≤ small) (s2 : small ≤ 9223372036854775807) :
    Calls Try.prog 4 #[p.val, .slice A n cap, .int .i64 q, .int .i64 small] w fun e w' => e = .returned (.bool true) ∧ Below w.heap.size w w' := by
  obtain ⟨m, k, hm, hk, m1, k1, l30, hR, hRm, hR0, hRn⟩ := drawn_orders L small
  have okS := some_n L
  have okO := some_ok hok.out
  have hqs := qtys_len (someO L)
  obtain ⟨SO, hSO⟩ : ∃ SO, someO L = SO := ⟨_, rfl⟩
  have HS0 : Hid (∀ W, Below w.heap.size w W → Calls Try.prog 13 #[.slice A n cap] W (GaveS W SO)) := Lib.hid (fun W b => by rw [← hSO]; exact Some_any A n cap L W (Lib.hid (h.out.below b)) hok)
  rw [hSO] at hm l30 okS okO hR hRm hR0 hRn hqs
  replace hSO := Lib.hid hSO
  obtain ⟨S, hS⟩ : ∃ S, qtys SO = S := ⟨_, rfl⟩
  rw [hS] at hm okS hR hRm hR0 hRn hqs
  replace hS := Lib.hid hS
  obtain ⟨ns, hns⟩ : ∃ ns, SO.length = ns := ⟨_, rfl⟩
  rw [hns] at l30 hqs
  have iS : Hid (∀ x ∈ S, I64 x) := Lib.hid (fun x hx => by have := okS x hx; exact ⟨by omega, by omega⟩)
  have okS0 : Hid (∀ x ∈ S, 0 ≤ x ∧ x ≤ 41) := Lib.hid (fun x hx => by have := okS x hx; omega)
  have okO0 := Lib.hid okO
  clear okS okO
  clear hR hRm hR0 hRn
  have hln := h.out.1
  have HK0 : Hid (∀ W, Below w.heap.size w W → Calls Try.prog 15 #[p.val] W fun e w' => ∃ P : PD, e = .returned P.val ∧ P.Fair ∧ Below W.heap.size W w') := Lib.hid (fun W b => KProd_al p W (Lib.hid (hp.out.below b)))
  have hcan : Hid p.Can := Lib.hid ⟨hp.out.rule, hp.out.top, hp.out.least, hp.out.part⟩
  clear hp
  obtain ⟨code, A1, n1, c1, tick, low, high, wide, rule, top, least, part, A2, n2, c2, Q, R⟩ := p
  replace HK0 : Hid (∀ W, Below w.heap.size w W → Calls Try.prog 15 #[.agg #[.string (str code), .slice A1 n1 c1, .int .i64 tick, .int .i64 low, .int .i64 high, .int .i64 wide, .int .i64 rule, .int .i64 top, .int .i64 least, .int .i64 part, .slice A2 n2 c2]] W fun e w' => ∃ P : PD, e = .returned P.val ∧ P.Fair ∧ Below W.heap.size W w') := HK0
  show Calls Try.prog 4 #[.agg #[.string (str code), .slice A1 n1 c1, .int .i64 tick, .int .i64 low, .int .i64 high, .int .i64 wide, .int .i64 rule, .int .i64 top, .int .i64 least, .int .i64 part, .slice A2 n2 c2], .slice A n cap, .int .i64 q, .int .i64 small] w _
  obtain ⟨W0, eW0⟩ : ∃ W0, w.alloc (.cells #[.string (str code), .slice A1 n1 c1, .int .i64 tick, .int .i64 low, .int .i64 high, .int .i64 wide, .int .i64 rule, .int .i64 top, .int .i64 least, .int .i64 part, .slice A2 n2 c2] 28) = W0 := ⟨_, rfl⟩
  obtain ⟨pb, epb⟩ : ∃ pb, w.heap.size = pb := ⟨_, rfl⟩
  have hblk0 : Hid (W0.heap[pb]? = some (.cells #[.string (str code), .slice A1 n1 c1, .int .i64 tick, .int .i64 low, .int .i64 high, .int .i64 wide, .int .i64 rule, .int .i64 top, .int .i64 least, .int .i64 part, .slice A2 n2 c2] 28 (0, 0))) := Lib.hid (by rw [← eW0, ← epb]; exact heap_alloc_new w _)
  have hB0 : Hid (Below w.heap.size w W0) := Lib.hid (by rw [← eW0]; exact (Below.refl _ w).alloc (Nat.le_refl _) _)
  replace eW0 := Lib.hid eW0
  replace epb := Lib.hid epb
  go_enter Try.func4, Try.ntmps4
  go_wp2_with fail
  rw [eW0.out, epb.out]
  clear eW0
  refine (HS0.out _ hB0.out).mono ?_
  rintro e w1 ⟨v, u, rfl, oo, rr, -, bb⟩
  clear HS0
  obtain ⟨Ao, co, rfl, h2, l2, -, -, -⟩ := oo.slice
  obtain ⟨Aq, cq, rfl, h3, -, l3, -, -⟩ := rr.slice (by rw [hS.out]; exact iS.out)
  rw [hns] at h2 l2 ⊢
  rw [hS.out, hqs] at h3 l3
  rw [qtys_len, hns]
  replace h2 := Lib.hid h2
  replace h3 := Lib.hid h3
  have hB1 := Lib.hid (below_up hB0.out bb)
  have hblk1 := Lib.hid (pd_block (p := ⟨code, A1, n1, c1, tick, low, high, wide, rule, top, least, part, A2, n2, c2, Q, R⟩) hblk0.out bb)
  clear bb oo rr hblk0 hB0
  go_wp2_with fail
  go_loop [11, 12] (fun u i => ∃ (t : Nat) (y : Int), i = .int .i64 t ∧ u = .int .i64 y ∧ t ≤ ns ∧ Hid (sumL (S.take t) = y) ∧ 0 ≤ y ∧ y ≤ 41 * (t : Int)) (fun _ i => ns - (intOf i).toNat)
  case atStart => exact ⟨0, 0, rfl, rfl, by omega, Lib.hid (by rw [List.take_zero]; rfl), by omega, by omega⟩
  case round =>
    obtain ⟨t, y, rfl, rfl, ht, hy, y0, y1⟩ := hrel
    by_cases hlt : t < ns
    · have d1 : decide ((t : Int) < (ns : Int)) = true := decide_eq_true (by omega)
      have d3 : (t : Int) < (ns : Int) := by omega
      obtain ⟨b1, o1', rfl, q1'⟩ := h3.out.2.2 (by omega)
      have c1' := q1' t hlt
      have hst := sumL_take S t (by omega)
      have hx0 := okS0.out _ (getD_mem (show t < S.length by omega))
      generalize S.getD t 0 = x at *
      rw [hy.out] at hst
      replace hst := Lib.hid hst
      clear q1'
      go_wp2_with fail
      go_round
      case rel => exact ⟨t + 1, y + x, by go_num, by go_num, by omega, hst, by omega, by omega⟩
      case measure => simp [intOf]; omega
    · obtain rfl : ns = t := by omega
      have d1 : decide ((ns : Int) < (ns : Int)) = false := by simp
      have e9 : y = (m : Int) := by rw [← hy.out, List.take_of_length_le (by omega)]; exact hm
      subst e9
      clear hy ht hlt y0 y1
      have HW := Within_any small m w1 (by omega) s1 s2
      rw [hk] at HW
      replace HW := Lib.hid HW
      clear h3
      go_wp2_with fail
      refine HW.out.mono ?_
      rintro e w1 ⟨rfl, rfl⟩
      clear HW
      have HK := Lib.hid (HK0.out _ hB1.out)
      obtain ⟨k0, k1, k2, k3, k4, k5, k6, k7, k8, k9, k10⟩ := row11 hblk1.out
      clear HK0
      go_wp2_with fail
      refine HK.out.mono ?_
      rintro e w2 ⟨P, rfl, pf, b2⟩
      clear HK k0 k1 k2 k3 k4 k5 k6 k7 k8 k9 k10
      have hB2 := below_up hB1.out b2
      have hblk2 := pd_block hblk1.out b2
      have h2' := h2.out.below b2
      clear hB1 hblk1 h2
      obtain ⟨codes, A1s, n1s, c1s, ticks, lows, highs, wides, rules, tops, leasts, parts, A2s, n2s, c2s, Qs, Rs⟩ := P
      rw [show PD.val ⟨codes, A1s, n1s, c1s, ticks, lows, highs, wides, rules, tops, leasts, parts, A2s, n2s, c2s, Qs, Rs⟩ = .agg #[.string (str codes), .slice A1s n1s c1s, .int .i64 ticks, .int .i64 lows, .int .i64 highs, .int .i64 wides, .int .i64 rules, .int .i64 tops, .int .i64 leasts, .int .i64 parts, .slice A2s n2s c2s] from rfl]
      obtain ⟨rb, erb⟩ : ∃ x, w2.heap.size = x := ⟨_, rfl⟩
      obtain ⟨wz, ewz⟩ : ∃ W, w2.alloc (.cells #[.string (str codes), .slice A1s n1s c1s, .int .i64 ticks, .int .i64 lows, .int .i64 highs, .int .i64 wides, .int .i64 rules, .int .i64 tops, .int .i64 leasts, .int .i64 parts, .slice A2s n2s c2s] 28) = W := ⟨_, rfl⟩
      have bz : Below w2.heap.size w2 wz := by rw [← ewz]; exact (Below.refl _ w2).alloc (Nat.le_refl _) _
      have hBz := Lib.hid (below_up hB2 bz)
      have hpz : Hid (wz.heap[pb]? = some (.cells #[.string (str code), .slice A1 n1 c1, .int .i64 tick, .int .i64 low, .int .i64 high, .int .i64 wide, .int .i64 rule, .int .i64 top, .int .i64 least, .int .i64 part, .slice A2 n2 c2] 28 (0, 0))) := Lib.hid (pd_block (p := ⟨code, A1, n1, c1, tick, low, high, wide, rule, top, least, part, A2, n2, c2, Q, R⟩) hblk2 bz)
      have hrz : Hid (wz.heap[rb]? = some (.cells #[.string (str codes), .slice A1s n1s c1s, .int .i64 ticks, .int .i64 lows, .int .i64 highs, .int .i64 wides, .int .i64 rules, .int .i64 tops, .int .i64 leasts, .int .i64 parts, .slice A2s n2s c2s] 28 (0, 0))) := Lib.hid (by rw [← ewz, ← erb]; exact heap_alloc_new w2 _)
      have h2 := Lib.hid (h2'.below bz)
      have hA := Lib.hid (h.out.below hBz.out)
      replace ewz := Lib.hid ewz
      replace erb := Lib.hid erb
      have fair := pf
      replace fair := Lib.hid fair
      clear pf bz h2' hblk2 hB2 b2
      by_cases h60 : 60 < n
      · have d60 : decide (60 < n) = true := decide_eq_true h60
        have d60' : decide ((60 : Int) < (n : Int)) = true := decide_eq_true (by omega)
        have z60 : (60 : Int) < (n : Int) := by omega
        have hA' := Lib.hid (hA.out.take (k := 60) (by omega))
        have hokA := Lib.hid (hok.out.take 60)
        clear hA
        go_upto_region 11 with (fail)
        rw [ewz.out, erb.out]
        clear ewz erb d60 d60' z60
        have hlA : ((L.take 60)).length = 60 := hA'.out.1
        have canS := Lib.hid fair.out.can
        obtain ⟨X1, nx1, hX1, hnx1, fx1, iX1⟩ := alloc_letters (PD.rule ⟨codes, A1s, n1s, c1s, ticks, lows, highs, wides, rules, tops, leasts, parts, A2s, n2s, c2s, Qs, Rs⟩) (PD.top ⟨codes, A1s, n1s, c1s, ticks, lows, highs, wides, rules, tops, leasts, parts, A2s, n2s, c2s, Qs, Rs⟩) (PD.least ⟨codes, A1s, n1s, c1s, ticks, lows, highs, wides, rules, tops, leasts, parts, A2s, n2s, c2s, Qs, Rs⟩) (PD.part ⟨codes, A1s, n1s, c1s, ticks, lows, highs, wides, rules, tops, leasts, parts, A2s, n2s, c2s, Qs, Rs⟩) SO (k : Int)
        have CA1 : Hid (∀ W, Below wz.heap.size wz W → Calls Try.prog 9 #[.agg #[.string (str codes), .slice A1s n1s c1s, .int .i64 ticks, .int .i64 lows, .int .i64 highs, .int .i64 wides, .int .i64 rules, .int .i64 tops, .int .i64 leasts, .int .i64 parts, .slice A2s n2s c2s], .slice Ao ns co, .int .i64 (k : Int)] W (Gave W X1)) := Lib.hid (fun W b => by rw [← hX1]; exact AShare_any ⟨codes, A1s, n1s, c1s, ticks, lows, highs, wides, rules, tops, leasts, parts, A2s, n2s, c2s, Qs, Rs⟩ Ao ns co SO (k : Int) W (by omega) (by omega) (by omega) canS (Lib.hid (h2.out.below b)) okO0)
        have CI1 : Hid (∀ W, Below wz.heap.size wz W → Calls Try.prog 11 #[.slice Ao ns co] W (GaveO 47 W SO)) := Lib.hid (fun W b => In_any Ao ns co SO W (by omega) (Lib.hid (h2.out.below b)) okO0)
        have CR1 : Hid (∀ (W : World) (B : Option Addr) (d : Nat), HV fO W B ns SO → Calls Try.prog 10 #[.agg #[.string (str codes), .slice A1s n1s c1s, .int .i64 ticks, .int .i64 lows, .int .i64 highs, .int .i64 wides, .int .i64 rules, .int .i64 tops, .int .i64 leasts, .int .i64 parts, .slice A2s n2s c2s], .slice B ns d, .int .i64 (k : Int)] W (Gave W X1)) := Lib.hid (fun W B d hb => by rw [← hX1]; exact RAlloc_any ⟨codes, A1s, n1s, c1s, ticks, lows, highs, wides, rules, tops, leasts, parts, A2s, n2s, c2s, Qs, Rs⟩ B ns d SO (k : Int) W (by omega) (by omega) (by omega) canS (Lib.hid hb) okO0)
        replace hX1 := Lib.hid hX1
        obtain ⟨X2, nx2, hX2, hnx2, fx2, iX2⟩ := alloc_letters (PD.rule ⟨code, A1, n1, c1, tick, low, high, wide, rule, top, least, part, A2, n2, c2, Q, R⟩) (PD.top ⟨code, A1, n1, c1, tick, low, high, wide, rule, top, least, part, A2, n2, c2, Q, R⟩) (PD.least ⟨code, A1, n1, c1, tick, low, high, wide, rule, top, least, part, A2, n2, c2, Q, R⟩) (PD.part ⟨code, A1, n1, c1, tick, low, high, wide, rule, top, least, part, A2, n2, c2, Q, R⟩) (L.take 60) q
        have CA2 : Hid (∀ W, Below wz.heap.size wz W → Calls Try.prog 9 #[.agg #[.string (str code), .slice A1 n1 c1, .int .i64 tick, .int .i64 low, .int .i64 high, .int .i64 wide, .int .i64 rule, .int .i64 top, .int .i64 least, .int .i64 part, .slice A2 n2 c2], .slice A 60 cap, .int .i64 q] W (Gave W X2)) := Lib.hid (fun W b => by rw [← hX2]; exact AShare_any ⟨code, A1, n1, c1, tick, low, high, wide, rule, top, least, part, A2, n2, c2, Q, R⟩ A 60 cap (L.take 60) q W (by omega) q1 q2 hcan (Lib.hid (hA'.out.below b)) hokA)
        have CI2 : Hid (∀ W, Below wz.heap.size wz W → Calls Try.prog 11 #[.slice A 60 cap] W (GaveO 47 W (L.take 60))) := Lib.hid (fun W b => In_any A 60 cap (L.take 60) W (by omega) (Lib.hid (hA'.out.below b)) hokA)
        have CR2 : Hid (∀ (W : World) (B : Option Addr) (d : Nat), HV fO W B 60 (L.take 60) → Calls Try.prog 10 #[.agg #[.string (str code), .slice A1 n1 c1, .int .i64 tick, .int .i64 low, .int .i64 high, .int .i64 wide, .int .i64 rule, .int .i64 top, .int .i64 least, .int .i64 part, .slice A2 n2 c2], .slice B 60 d, .int .i64 q] W (Gave W X2)) := Lib.hid (fun W B d hb => by rw [← hX2]; exact RAlloc_any ⟨code, A1, n1, c1, tick, low, high, wide, rule, top, least, part, A2, n2, c2, Q, R⟩ B 60 d (L.take 60) q W (by omega) q1 q2 hcan (Lib.hid hb) hokA)
        replace hX2 := Lib.hid hX2
        obtain ⟨X3, nx3, hX3, hnx3, fx3, iX3⟩ := alloc_letters (PD.rule ⟨code, A1, n1, c1, tick, low, high, wide, rule, top, least, part, A2, n2, c2, Q, R⟩) (PD.top ⟨code, A1, n1, c1, tick, low, high, wide, rule, top, least, part, A2, n2, c2, Q, R⟩) (PD.least ⟨code, A1, n1, c1, tick, low, high, wide, rule, top, least, part, A2, n2, c2, Q, R⟩) (PD.part ⟨code, A1, n1, c1, tick, low, high, wide, rule, top, least, part, A2, n2, c2, Q, R⟩) SO (k : Int)
        have CA3 : Hid (∀ W, Below wz.heap.size wz W → Calls Try.prog 9 #[.agg #[.string (str code), .slice A1 n1 c1, .int .i64 tick, .int .i64 low, .int .i64 high, .int .i64 wide, .int .i64 rule, .int .i64 top, .int .i64 least, .int .i64 part, .slice A2 n2 c2], .slice Ao ns co, .int .i64 (k : Int)] W (Gave W X3)) := Lib.hid (fun W b => by rw [← hX3]; exact AShare_any ⟨code, A1, n1, c1, tick, low, high, wide, rule, top, least, part, A2, n2, c2, Q, R⟩ Ao ns co SO (k : Int) W (by omega) (by omega) (by omega) hcan (Lib.hid (h2.out.below b)) okO0)
        have CI3 : Hid (∀ W, Below wz.heap.size wz W → Calls Try.prog 11 #[.slice Ao ns co] W (GaveO 47 W SO)) := Lib.hid (fun W b => In_any Ao ns co SO W (by omega) (Lib.hid (h2.out.below b)) okO0)
        have CR3 : Hid (∀ (W : World) (B : Option Addr) (d : Nat), HV fO W B ns SO → Calls Try.prog 10 #[.agg #[.string (str code), .slice A1 n1 c1, .int .i64 tick, .int .i64 low, .int .i64 high, .int .i64 wide, .int .i64 rule, .int .i64 top, .int .i64 least, .int .i64 part, .slice A2 n2 c2], .slice B ns d, .int .i64 (k : Int)] W (Gave W X3)) := Lib.hid (fun W B d hb => by rw [← hX3]; exact RAlloc_any ⟨code, A1, n1, c1, tick, low, high, wide, rule, top, least, part, A2, n2, c2, Q, R⟩ B ns d SO (k : Int) W (by omega) (by omega) (by omega) hcan (Lib.hid hb) okO0)
        replace hX3 := Lib.hid hX3
        have hSof : Hid (∀ W W' : World, (fun W : World => W.cell? ⟨pb, 0, none⟩ = some (.string (str code)) ∧ W.cell? ⟨pb, 1, none⟩ = some (.slice A1 n1 c1) ∧ W.cell? ⟨pb, 2, none⟩ = some (.int .i64 tick) ∧ W.cell? ⟨pb, 3, none⟩ = some (.int .i64 low) ∧ W.cell? ⟨pb, 4, none⟩ = some (.int .i64 high) ∧ W.cell? ⟨pb, 5, none⟩ = some (.int .i64 wide) ∧ W.cell? ⟨pb, 6, none⟩ = some (.int .i64 rule) ∧ W.cell? ⟨pb, 7, none⟩ = some (.int .i64 top) ∧ W.cell? ⟨pb, 8, none⟩ = some (.int .i64 least) ∧ W.cell? ⟨pb, 9, none⟩ = some (.int .i64 part) ∧ W.cell? ⟨pb, 10, none⟩ = some (.slice A2 n2 c2) ∧ W.cell? ⟨rb, 0, none⟩ = some (.string (str codes)) ∧ W.cell? ⟨rb, 1, none⟩ = some (.slice A1s n1s c1s) ∧ W.cell? ⟨rb, 2, none⟩ = some (.int .i64 ticks) ∧ W.cell? ⟨rb, 3, none⟩ = some (.int .i64 lows) ∧ W.cell? ⟨rb, 4, none⟩ = some (.int .i64 highs) ∧ W.cell? ⟨rb, 5, none⟩ = some (.int .i64 wides) ∧ W.cell? ⟨rb, 6, none⟩ = some (.int .i64 rules) ∧ W.cell? ⟨rb, 7, none⟩ = some (.int .i64 tops) ∧ W.cell? ⟨rb, 8, none⟩ = some (.int .i64 leasts) ∧ W.cell? ⟨rb, 9, none⟩ = some (.int .i64 parts) ∧ W.cell? ⟨rb, 10, none⟩ = some (.slice A2s n2s c2s) ∧ Below wz.heap.size wz W) W → Below W.heap.size W W' → (fun W : World => W.cell? ⟨pb, 0, none⟩ = some (.string (str code)) ∧ W.cell? ⟨pb, 1, none⟩ = some (.slice A1 n1 c1) ∧ W.cell? ⟨pb, 2, none⟩ = some (.int .i64 tick) ∧ W.cell? ⟨pb, 3, none⟩ = some (.int .i64 low) ∧ W.cell? ⟨pb, 4, none⟩ = some (.int .i64 high) ∧ W.cell? ⟨pb, 5, none⟩ = some (.int .i64 wide) ∧ W.cell? ⟨pb, 6, none⟩ = some (.int .i64 rule) ∧ W.cell? ⟨pb, 7, none⟩ = some (.int .i64 top) ∧ W.cell? ⟨pb, 8, none⟩ = some (.int .i64 least) ∧ W.cell? ⟨pb, 9, none⟩ = some (.int .i64 part) ∧ W.cell? ⟨pb, 10, none⟩ = some (.slice A2 n2 c2) ∧ W.cell? ⟨rb, 0, none⟩ = some (.string (str codes)) ∧ W.cell? ⟨rb, 1, none⟩ = some (.slice A1s n1s c1s) ∧ W.cell? ⟨rb, 2, none⟩ = some (.int .i64 ticks) ∧ W.cell? ⟨rb, 3, none⟩ = some (.int .i64 lows) ∧ W.cell? ⟨rb, 4, none⟩ = some (.int .i64 highs) ∧ W.cell? ⟨rb, 5, none⟩ = some (.int .i64 wides) ∧ W.cell? ⟨rb, 6, none⟩ = some (.int .i64 rules) ∧ W.cell? ⟨rb, 7, none⟩ = some (.int .i64 tops) ∧ W.cell? ⟨rb, 8, none⟩ = some (.int .i64 leasts) ∧ W.cell? ⟨rb, 9, none⟩ = some (.int .i64 parts) ∧ W.cell? ⟨rb, 10, none⟩ = some (.slice A2s n2s c2s) ∧ Below wz.heap.size wz W) W') := Lib.hid (fun W W' hs b => ⟨(b.cell (World.block_lt_of_cell? W _ hs.1)).trans hs.1, (b.cell (World.block_lt_of_cell? W _ hs.2.1)).trans hs.2.1, (b.cell (World.block_lt_of_cell? W _ hs.2.2.1)).trans hs.2.2.1, (b.cell (World.block_lt_of_cell? W _ hs.2.2.2.1)).trans hs.2.2.2.1, (b.cell (World.block_lt_of_cell? W _ hs.2.2.2.2.1)).trans hs.2.2.2.2.1, (b.cell (World.block_lt_of_cell? W _ hs.2.2.2.2.2.1)).trans hs.2.2.2.2.2.1, (b.cell (World.block_lt_of_cell? W _ hs.2.2.2.2.2.2.1)).trans hs.2.2.2.2.2.2.1, (b.cell (World.block_lt_of_cell? W _ hs.2.2.2.2.2.2.2.1)).trans hs.2.2.2.2.2.2.2.1, (b.cell (World.block_lt_of_cell? W _ hs.2.2.2.2.2.2.2.2.1)).trans hs.2.2.2.2.2.2.2.2.1, (b.cell (World.block_lt_of_cell? W _ hs.2.2.2.2.2.2.2.2.2.1)).trans hs.2.2.2.2.2.2.2.2.2.1, (b.cell (World.block_lt_of_cell? W _ hs.2.2.2.2.2.2.2.2.2.2.1)).trans hs.2.2.2.2.2.2.2.2.2.2.1, (b.cell (World.block_lt_of_cell? W _ hs.2.2.2.2.2.2.2.2.2.2.2.1)).trans hs.2.2.2.2.2.2.2.2.2.2.2.1, (b.cell (World.block_lt_of_cell? W _ hs.2.2.2.2.2.2.2.2.2.2.2.2.1)).trans hs.2.2.2.2.2.2.2.2.2.2.2.2.1, (b.cell (World.block_lt_of_cell? W _ hs.2.2.2.2.2.2.2.2.2.2.2.2.2.1)).trans hs.2.2.2.2.2.2.2.2.2.2.2.2.2.1, (b.cell (World.block_lt_of_cell? W _ hs.2.2.2.2.2.2.2.2.2.2.2.2.2.2.1)).trans hs.2.2.2.2.2.2.2.2.2.2.2.2.2.2.1, (b.cell (World.block_lt_of_cell? W _ hs.2.2.2.2.2.2.2.2.2.2.2.2.2.2.2.1)).trans hs.2.2.2.2.2.2.2.2.2.2.2.2.2.2.2.1, (b.cell (World.block_lt_of_cell? W _ hs.2.2.2.2.2.2.2.2.2.2.2.2.2.2.2.2.1)).trans hs.2.2.2.2.2.2.2.2.2.2.2.2.2.2.2.2.1, (b.cell (World.block_lt_of_cell? W _ hs.2.2.2.2.2.2.2.2.2.2.2.2.2.2.2.2.2.1)).trans hs.2.2.2.2.2.2.2.2.2.2.2.2.2.2.2.2.2.1, (b.cell (World.block_lt_of_cell? W _ hs.2.2.2.2.2.2.2.2.2.2.2.2.2.2.2.2.2.2.1)).trans hs.2.2.2.2.2.2.2.2.2.2.2.2.2.2.2.2.2.2.1, (b.cell (World.block_lt_of_cell? W _ hs.2.2.2.2.2.2.2.2.2.2.2.2.2.2.2.2.2.2.2.1)).trans hs.2.2.2.2.2.2.2.2.2.2.2.2.2.2.2.2.2.2.2.1, (b.cell (World.block_lt_of_cell? W _ hs.2.2.2.2.2.2.2.2.2.2.2.2.2.2.2.2.2.2.2.2.1)).trans hs.2.2.2.2.2.2.2.2.2.2.2.2.2.2.2.2.2.2.2.2.1, (b.cell (World.block_lt_of_cell? W _ hs.2.2.2.2.2.2.2.2.2.2.2.2.2.2.2.2.2.2.2.2.2.1)).trans hs.2.2.2.2.2.2.2.2.2.2.2.2.2.2.2.2.2.2.2.2.2.1, hs.2.2.2.2.2.2.2.2.2.2.2.2.2.2.2.2.2.2.2.2.2.2.trans (b.mono hs.2.2.2.2.2.2.2.2.2.2.2.2.2.2.2.2.2.2.2.2.2.2.size)⟩)
        have bzz : Below wz.heap.size wz wz.drew := (Below.refl _ wz).drew
        obtain ⟨x0, x1, x2, x3, x4, x5, x6, x7, x8, x9, x10⟩ := row11 (pd_block (p := ⟨code, A1, n1, c1, tick, low, high, wide, rule, top, least, part, A2, n2, c2, Q, R⟩) hpz.out bzz)
        obtain ⟨y0, y1, y2, y3, y4, y5, y6, y7, y8, y9, y10⟩ := row11 (pd_block (p := ⟨codes, A1s, n1s, c1s, ticks, lows, highs, wides, rules, tops, leasts, parts, A2s, n2s, c2s, Qs, Rs⟩) hrz.out bzz)
        have z0 : (fun W : World => W.cell? ⟨pb, 0, none⟩ = some (.string (str code)) ∧ W.cell? ⟨pb, 1, none⟩ = some (.slice A1 n1 c1) ∧ W.cell? ⟨pb, 2, none⟩ = some (.int .i64 tick) ∧ W.cell? ⟨pb, 3, none⟩ = some (.int .i64 low) ∧ W.cell? ⟨pb, 4, none⟩ = some (.int .i64 high) ∧ W.cell? ⟨pb, 5, none⟩ = some (.int .i64 wide) ∧ W.cell? ⟨pb, 6, none⟩ = some (.int .i64 rule) ∧ W.cell? ⟨pb, 7, none⟩ = some (.int .i64 top) ∧ W.cell? ⟨pb, 8, none⟩ = some (.int .i64 least) ∧ W.cell? ⟨pb, 9, none⟩ = some (.int .i64 part) ∧ W.cell? ⟨pb, 10, none⟩ = some (.slice A2 n2 c2) ∧ W.cell? ⟨rb, 0, none⟩ = some (.string (str codes)) ∧ W.cell? ⟨rb, 1, none⟩ = some (.slice A1s n1s c1s) ∧ W.cell? ⟨rb, 2, none⟩ = some (.int .i64 ticks) ∧ W.cell? ⟨rb, 3, none⟩ = some (.int .i64 lows) ∧ W.cell? ⟨rb, 4, none⟩ = some (.int .i64 highs) ∧ W.cell? ⟨rb, 5, none⟩ = some (.int .i64 wides) ∧ W.cell? ⟨rb, 6, none⟩ = some (.int .i64 rules) ∧ W.cell? ⟨rb, 7, none⟩ = some (.int .i64 tops) ∧ W.cell? ⟨rb, 8, none⟩ = some (.int .i64 leasts) ∧ W.cell? ⟨rb, 9, none⟩ = some (.int .i64 parts) ∧ W.cell? ⟨rb, 10, none⟩ = some (.slice A2s n2s c2s) ∧ Below wz.heap.size wz W) wz.drew := ⟨x0, x1, x2, x3, x4, x5, x6, x7, x8, x9, x10, y0, y1, y2, y3, y4, y5, y6, y7, y8, y9, y10, bzz⟩
        clear x0 x1 x2 x3 x4 x5 x6 x7 x8 x9 x10 y0 y1 y2 y3 y4 y5 y6 y7 y8 y9 y10 bzz hpz hrz h2 hA' hokA okO0 okS0 iS hm hok h canS fair hcan
        replace hnx1 := Lib.hid hnx1
        replace hnx2 := Lib.hid hnx2
        replace hnx3 := Lib.hid hnx3
        refine wp_region_held_drew (S := (fun W : World => W.cell? ⟨pb, 0, none⟩ = some (.string (str code)) ∧ W.cell? ⟨pb, 1, none⟩ = some (.slice A1 n1 c1) ∧ W.cell? ⟨pb, 2, none⟩ = some (.int .i64 tick) ∧ W.cell? ⟨pb, 3, none⟩ = some (.int .i64 low) ∧ W.cell? ⟨pb, 4, none⟩ = some (.int .i64 high) ∧ W.cell? ⟨pb, 5, none⟩ = some (.int .i64 wide) ∧ W.cell? ⟨pb, 6, none⟩ = some (.int .i64 rule) ∧ W.cell? ⟨pb, 7, none⟩ = some (.int .i64 top) ∧ W.cell? ⟨pb, 8, none⟩ = some (.int .i64 least) ∧ W.cell? ⟨pb, 9, none⟩ = some (.int .i64 part) ∧ W.cell? ⟨pb, 10, none⟩ = some (.slice A2 n2 c2) ∧ W.cell? ⟨rb, 0, none⟩ = some (.string (str codes)) ∧ W.cell? ⟨rb, 1, none⟩ = some (.slice A1s n1s c1s) ∧ W.cell? ⟨rb, 2, none⟩ = some (.int .i64 ticks) ∧ W.cell? ⟨rb, 3, none⟩ = some (.int .i64 lows) ∧ W.cell? ⟨rb, 4, none⟩ = some (.int .i64 highs) ∧ W.cell? ⟨rb, 5, none⟩ = some (.int .i64 wides) ∧ W.cell? ⟨rb, 6, none⟩ = some (.int .i64 rules) ∧ W.cell? ⟨rb, 7, none⟩ = some (.int .i64 tops) ∧ W.cell? ⟨rb, 8, none⟩ = some (.int .i64 leasts) ∧ W.cell? ⟨rb, 9, none⟩ = some (.int .i64 parts) ∧ W.cell? ⟨rb, 10, none⟩ = some (.slice A2s n2s c2s) ∧ Below wz.heap.size wz W)) (by kernel_rfl) z0 (fun hHeld => ?_)
        refine wpAnyH_take (i := 0) (v := .agg #[.string (str codes), .slice A1s n1s c1s, .int .i64 ticks, .int .i64 lows, .int .i64 highs, .int .i64 wides, .int .i64 rules, .int .i64 tops, .int .i64 leasts, .int .i64 parts, .slice A2s n2s c2s]) rfl (by kernel_rfl) (by kernel_rfl) (by kernel_rfl) (fun _ _ _ h => h) (Or.inl ⟨by kernel_rfl, fun W hSw => ?_⟩) (by assumption) ?_
        · (try dsimp only at hSw)
          go_simp
        (try simp only [Act.put, List.setIfInBounds_toArray, List.set_cons_zero, List.set_cons_succ])
        refine wpAnyH_take (i := 1) (v := .slice Ao ns co) rfl (by kernel_rfl) (by kernel_rfl) (by kernel_rfl) (fun _ _ _ h => h) (Or.inl ⟨by kernel_rfl, fun W hSw => ?_⟩) (by assumption) ?_
        · (try dsimp only at hSw)
          go_simp
        (try simp only [Act.put, List.setIfInBounds_toArray, List.set_cons_zero, List.set_cons_succ])
        refine wpAnyH_take (i := 2) (v := .int .i64 (k : Int)) rfl (by kernel_rfl) (by kernel_rfl) (by kernel_rfl) (fun _ _ _ h => h) (Or.inl ⟨by kernel_rfl, fun W hSw => ?_⟩) (by assumption) ?_
        · (try dsimp only at hSw)
          go_simp
        (try simp only [Act.put, List.setIfInBounds_toArray, List.set_cons_zero, List.set_cons_succ])
        refine wpAnyH_take (i := 4) (v := .agg #[.string (str codes), .slice A1s n1s c1s, .int .i64 ticks, .int .i64 lows, .int .i64 highs, .int .i64 wides, .int .i64 rules, .int .i64 tops, .int .i64 leasts, .int .i64 parts, .slice A2s n2s c2s]) rfl (by kernel_rfl) (by kernel_rfl) (by kernel_rfl) (fun _ _ _ h => h) (Or.inl ⟨by kernel_rfl, fun W hSw => ?_⟩) (by assumption) ?_
        · (try dsimp only at hSw)
          go_simp
        (try simp only [Act.put, List.setIfInBounds_toArray, List.set_cons_zero, List.set_cons_succ])
        refine wpAnyH_take (i := 5) (v := .slice Ao ns co) rfl (by kernel_rfl) (by kernel_rfl) (by kernel_rfl) (fun _ _ _ h => h) (Or.inl ⟨by kernel_rfl, fun W hSw => ?_⟩) (by assumption) ?_
        · (try dsimp only at hSw)
          go_simp
        (try simp only [Act.put, List.setIfInBounds_toArray, List.set_cons_zero, List.set_cons_succ])
        refine wpAnyH_take (i := 7) (v := .int .i64 (k : Int)) rfl (by kernel_rfl) (by kernel_rfl) (by kernel_rfl) (fun _ _ _ h => h) (Or.inl ⟨by kernel_rfl, fun W hSw => ?_⟩) (by assumption) ?_
        · (try dsimp only at hSw)
          go_simp
        (try simp only [Act.put, List.setIfInBounds_toArray, List.set_cons_zero, List.set_cons_succ])
        refine wpAnyH_ready (rs := [3]) (by kernel_rfl) (by simp) ?_
        refine AllReadyH.cons rfl (fun K hK => ?_) AllReadyH.nil
        go_simp
        refine (CA1.out _ z0.2.2.2.2.2.2.2.2.2.2.2.2.2.2.2.2.2.2.2.2.2.2).mono ?_
        rintro e u1 ⟨v, rfl, rr, bb⟩
        obtain ⟨P1, d1, rfl, p1, -, -, -, -⟩ := rr.slice iX1.out
        rw [hnx1.out] at p1 ⊢
        have z1 := hSof.out _ _ z0 bb
        replace p1 := Lib.hid p1
        clear rr bb CA1
        go_wp2_with fail
        refine hK.out _ _ z1 (fun hHeld => ?_)
        clear hK K
        (try simp only [Act.put, List.setIfInBounds_toArray, List.set_cons_zero, List.set_cons_succ])
        refine wpAnyH_ready (rs := [6]) (by kernel_rfl) (by simp) ?_
        refine AllReadyH.cons rfl (fun K hK => ?_) AllReadyH.nil
        go_simp
        refine (CI1.out _ z1.2.2.2.2.2.2.2.2.2.2.2.2.2.2.2.2.2.2.2.2.2.2).mono ?_
        rintro e u2 ⟨v, rfl, oo, bb⟩
        obtain ⟨I1, di1, rfl, hi1, -, -, -, -⟩ := oo.slice
        rw [hns] at hi1 ⊢
        have z2 := hSof.out _ _ z1 bb
        replace p1 := Lib.hid (p1.out.below bb)
        replace hi1 := Lib.hid hi1
        clear oo bb CI1
        go_wp2_with fail
        refine hK.out _ _ z2 (fun hHeld => ?_)
        clear hK K
        (try simp only [Act.put, List.setIfInBounds_toArray, List.set_cons_zero, List.set_cons_succ])
        refine wpAnyH_ready (rs := [8]) (by kernel_rfl) (by simp) ?_
        refine AllReadyH.cons rfl (fun K hK => ?_) AllReadyH.nil
        go_simp
        refine (CR1.out _ _ _ hi1.out).mono ?_
        rintro e u3 ⟨v, rfl, rr, bb⟩
        obtain ⟨R1, dr1, rfl, r1, -, -, -, -⟩ := rr.slice iX1.out
        rw [hnx1.out] at r1 ⊢
        have z3 := hSof.out _ _ z2 bb
        replace p1 := Lib.hid (p1.out.below bb)
        replace r1 := Lib.hid r1
        clear rr bb CR1 hi1
        go_wp2_with fail
        refine hK.out _ _ z3 (fun hHeld => ?_)
        clear hK K
        (try simp only [Act.put, List.setIfInBounds_toArray, List.set_cons_zero, List.set_cons_succ])
        refine wpAnyH_ready (rs := [9]) (by kernel_rfl) (by simp) ?_
        refine AllReadyH.cons rfl (fun K hK => ?_) AllReadyH.nil
        go_simp
        refine (Same_yes P1 R1 nx1 d1 dr1 X1 u3 (by omega) p1 r1).mono ?_
        rintro e ux ⟨rfl, dd, rfl⟩
        have z4 := hSof.out _ _ z3 (below_drewN (Below.refl u3.heap.size u3) dd)
        clear p1 r1
        obtain ⟨u4, hu4⟩ : ∃ x, u3.drewN dd = x := ⟨_, rfl⟩
        rw [hu4] at z4 ⊢
        clear hu4
        go_wp2_with fail
        refine hK.out _ _ z4 (fun hHeld => ?_)
        clear hK K
        (try simp only [Act.put, List.setIfInBounds_toArray, List.set_cons_zero, List.set_cons_succ])
        refine wpAnyH_take (i := 10) (v := .bool true) rfl (by kernel_rfl) (by kernel_rfl) (by kernel_rfl) (fun _ _ _ h => h) (Or.inl ⟨by kernel_rfl, fun W hSw => ?_⟩) (by assumption) ?_
        · (try dsimp only at hSw)
          go_simp
        (try simp only [Act.put, List.setIfInBounds_toArray, List.set_cons_zero, List.set_cons_succ])
        refine wpAnyH_take (i := 11) (v := .agg #[.string (str code), .slice A1 n1 c1, .int .i64 tick, .int .i64 low, .int .i64 high, .int .i64 wide, .int .i64 rule, .int .i64 top, .int .i64 least, .int .i64 part, .slice A2 n2 c2]) rfl (by kernel_rfl) (by kernel_rfl) (by kernel_rfl) (fun _ _ _ h => h) (Or.inl ⟨by kernel_rfl, fun W hSw => ?_⟩) (by assumption) ?_
        · (try dsimp only at hSw)
          go_simp
        (try simp only [Act.put, List.setIfInBounds_toArray, List.set_cons_zero, List.set_cons_succ])
        refine wpAnyH_take (i := 12) (v := .slice A 60 cap) rfl (by kernel_rfl) (by kernel_rfl) (by kernel_rfl) (fun _ _ _ h => h) (Or.inl ⟨by kernel_rfl, fun W hSw => ?_⟩) (by assumption) ?_
        · (try dsimp only at hSw)
          go_simp
        (try simp only [Act.put, List.setIfInBounds_toArray, List.set_cons_zero, List.set_cons_succ])
        refine wpAnyH_take (i := 13) (v := .int .i64 q) rfl (by kernel_rfl) (by kernel_rfl) (by kernel_rfl) (fun _ _ _ h => h) (Or.inl ⟨by kernel_rfl, fun W hSw => ?_⟩) (by assumption) ?_
        · (try dsimp only at hSw)
          go_simp
        (try simp only [Act.put, List.setIfInBounds_toArray, List.set_cons_zero, List.set_cons_succ])
        refine wpAnyH_take (i := 15) (v := .agg #[.string (str code), .slice A1 n1 c1, .int .i64 tick, .int .i64 low, .int .i64 high, .int .i64 wide, .int .i64 rule, .int .i64 top, .int .i64 least, .int .i64 part, .slice A2 n2 c2]) rfl (by kernel_rfl) (by kernel_rfl) (by kernel_rfl) (fun _ _ _ h => h) (Or.inl ⟨by kernel_rfl, fun W hSw => ?_⟩) (by assumption) ?_
        · (try dsimp only at hSw)
          go_simp
        (try simp only [Act.put, List.setIfInBounds_toArray, List.set_cons_zero, List.set_cons_succ])
        refine wpAnyH_take (i := 16) (v := .slice A 60 cap) rfl (by kernel_rfl) (by kernel_rfl) (by kernel_rfl) (fun _ _ _ h => h) (Or.inl ⟨by kernel_rfl, fun W hSw => ?_⟩) (by assumption) ?_
        · (try dsimp only at hSw)
          go_simp
        (try simp only [Act.put, List.setIfInBounds_toArray, List.set_cons_zero, List.set_cons_succ])
        refine wpAnyH_take (i := 18) (v := .int .i64 q) rfl (by kernel_rfl) (by kernel_rfl) (by kernel_rfl) (fun _ _ _ h => h) (Or.inl ⟨by kernel_rfl, fun W hSw => ?_⟩) (by assumption) ?_
        · (try dsimp only at hSw)
          go_simp
        (try simp only [Act.put, List.setIfInBounds_toArray, List.set_cons_zero, List.set_cons_succ])
        refine wpAnyH_ready (rs := [14]) (by kernel_rfl) (by simp) ?_
        refine AllReadyH.cons rfl (fun K hK => ?_) AllReadyH.nil
        go_simp
        refine (CA2.out _ z4.2.2.2.2.2.2.2.2.2.2.2.2.2.2.2.2.2.2.2.2.2.2).mono ?_
        rintro e u5 ⟨v, rfl, rr, bb⟩
        obtain ⟨P2, d2, rfl, p2, -, -, -, -⟩ := rr.slice iX2.out
        rw [hnx2.out] at p2 ⊢
        have z5 := hSof.out _ _ z4 bb
        replace p2 := Lib.hid p2
        clear rr bb CA2
        go_wp2_with fail
        refine hK.out _ _ z5 (fun hHeld => ?_)
        clear hK K
        (try simp only [Act.put, List.setIfInBounds_toArray, List.set_cons_zero, List.set_cons_succ])
        refine wpAnyH_ready (rs := [17]) (by kernel_rfl) (by simp) ?_
        refine AllReadyH.cons rfl (fun K hK => ?_) AllReadyH.nil
        go_simp
        refine (CI2.out _ z5.2.2.2.2.2.2.2.2.2.2.2.2.2.2.2.2.2.2.2.2.2.2).mono ?_
        rintro e u6 ⟨v, rfl, oo, bb⟩
        obtain ⟨I2, di2, rfl, hi2, -, -, -, -⟩ := oo.slice
        rw [hlA] at hi2 ⊢
        have z6 := hSof.out _ _ z5 bb
        replace p2 := Lib.hid (p2.out.below bb)
        replace hi2 := Lib.hid hi2
        clear oo bb CI2
        go_wp2_with fail
        refine hK.out _ _ z6 (fun hHeld => ?_)
        clear hK K
        (try simp only [Act.put, List.setIfInBounds_toArray, List.set_cons_zero, List.set_cons_succ])
        refine wpAnyH_ready (rs := [19]) (by kernel_rfl) (by simp) ?_
        refine AllReadyH.cons rfl (fun K hK => ?_) AllReadyH.nil
        go_simp
        refine (CR2.out _ _ _ hi2.out).mono ?_
        rintro e u7 ⟨v, rfl, rr, bb⟩
        obtain ⟨R2, dr2, rfl, r2, -, -, -, -⟩ := rr.slice iX2.out
        rw [hnx2.out] at r2 ⊢
        have z7 := hSof.out _ _ z6 bb
        replace p2 := Lib.hid (p2.out.below bb)
        replace r2 := Lib.hid r2
        clear rr bb CR2 hi2
        go_wp2_with fail
        refine hK.out _ _ z7 (fun hHeld => ?_)
        clear hK K
        (try simp only [Act.put, List.setIfInBounds_toArray, List.set_cons_zero, List.set_cons_succ])
        refine wpAnyH_ready (rs := [20]) (by kernel_rfl) (by simp) ?_
        refine AllReadyH.cons rfl (fun K hK => ?_) AllReadyH.nil
        go_simp
        refine (Same_yes P2 R2 nx2 d2 dr2 X2 u7 (by omega) p2 r2).mono ?_
        rintro e ux ⟨rfl, dd, rfl⟩
        have z8 := hSof.out _ _ z7 (below_drewN (Below.refl u7.heap.size u7) dd)
        clear p2 r2
        obtain ⟨u8, hu8⟩ : ∃ x, u7.drewN dd = x := ⟨_, rfl⟩
        rw [hu8] at z8 ⊢
        clear hu8
        go_wp2_with fail
        refine hK.out _ _ z8 (fun hHeld => ?_)
        clear hK K
        (try simp only [Act.put, List.setIfInBounds_toArray, List.set_cons_zero, List.set_cons_succ])
        refine wpAnyH_take (i := 21) (v := .bool true) rfl (by kernel_rfl) (by kernel_rfl) (by kernel_rfl) (fun _ _ _ h => h) (Or.inl ⟨by kernel_rfl, fun W hSw => ?_⟩) (by assumption) ?_
        · (try dsimp only at hSw)
          go_simp
        (try simp only [Act.put, List.setIfInBounds_toArray, List.set_cons_zero, List.set_cons_succ])
        refine wpAnyH_take (i := 22) (v := .bool true) rfl (by kernel_rfl) (by kernel_rfl) (by kernel_rfl) (fun _ _ _ h => h) (Or.inl ⟨by kernel_rfl, fun W hSw => ?_⟩) (by assumption) ?_
        · (try dsimp only at hSw)
          go_simp
        (try simp only [Act.put, List.setIfInBounds_toArray, List.set_cons_zero, List.set_cons_succ])
        refine wpAnyH_take (i := 23) (v := .agg #[.string (str code), .slice A1 n1 c1, .int .i64 tick, .int .i64 low, .int .i64 high, .int .i64 wide, .int .i64 rule, .int .i64 top, .int .i64 least, .int .i64 part, .slice A2 n2 c2]) rfl (by kernel_rfl) (by kernel_rfl) (by kernel_rfl) (fun _ _ _ h => h) (Or.inl ⟨by kernel_rfl, fun W hSw => ?_⟩) (by assumption) ?_
        · (try dsimp only at hSw)
          go_simp
        (try simp only [Act.put, List.setIfInBounds_toArray, List.set_cons_zero, List.set_cons_succ])
        refine wpAnyH_take (i := 24) (v := .slice Ao ns co) rfl (by kernel_rfl) (by kernel_rfl) (by kernel_rfl) (fun _ _ _ h => h) (Or.inl ⟨by kernel_rfl, fun W hSw => ?_⟩) (by assumption) ?_
        · (try dsimp only at hSw)
          go_simp
        (try simp only [Act.put, List.setIfInBounds_toArray, List.set_cons_zero, List.set_cons_succ])
        refine wpAnyH_take (i := 25) (v := .int .i64 (k : Int)) rfl (by kernel_rfl) (by kernel_rfl) (by kernel_rfl) (fun _ _ _ h => h) (Or.inl ⟨by kernel_rfl, fun W hSw => ?_⟩) (by assumption) ?_
        · (try dsimp only at hSw)
          go_simp
        (try simp only [Act.put, List.setIfInBounds_toArray, List.set_cons_zero, List.set_cons_succ])
        refine wpAnyH_take (i := 27) (v := .agg #[.string (str code), .slice A1 n1 c1, .int .i64 tick, .int .i64 low, .int .i64 high, .int .i64 wide, .int .i64 rule, .int .i64 top, .int .i64 least, .int .i64 part, .slice A2 n2 c2]) rfl (by kernel_rfl) (by kernel_rfl) (by kernel_rfl) (fun _ _ _ h => h) (Or.inl ⟨by kernel_rfl, fun W hSw => ?_⟩) (by assumption) ?_
        · (try dsimp only at hSw)
          go_simp
        (try simp only [Act.put, List.setIfInBounds_toArray, List.set_cons_zero, List.set_cons_succ])
        refine wpAnyH_take (i := 28) (v := .slice Ao ns co) rfl (by kernel_rfl) (by kernel_rfl) (by kernel_rfl) (fun _ _ _ h => h) (Or.inl ⟨by kernel_rfl, fun W hSw => ?_⟩) (by assumption) ?_
        · (try dsimp only at hSw)
          go_simp
        (try simp only [Act.put, List.setIfInBounds_toArray, List.set_cons_zero, List.set_cons_succ])
        refine wpAnyH_take (i := 30) (v := .int .i64 (k : Int)) rfl (by kernel_rfl) (by kernel_rfl) (by kernel_rfl) (fun _ _ _ h => h) (Or.inl ⟨by kernel_rfl, fun W hSw => ?_⟩) (by assumption) ?_
        · (try dsimp only at hSw)
          go_simp
        (try simp only [Act.put, List.setIfInBounds_toArray, List.set_cons_zero, List.set_cons_succ])
        refine wpAnyH_ready (rs := [26]) (by kernel_rfl) (by simp) ?_
        refine AllReadyH.cons rfl (fun K hK => ?_) AllReadyH.nil
        go_simp
        refine (CA3.out _ z8.2.2.2.2.2.2.2.2.2.2.2.2.2.2.2.2.2.2.2.2.2.2).mono ?_
        rintro e u9 ⟨v, rfl, rr, bb⟩
        obtain ⟨P3, d3, rfl, p3, -, -, -, -⟩ := rr.slice iX3.out
        rw [hnx3.out] at p3 ⊢
        have z9 := hSof.out _ _ z8 bb
        replace p3 := Lib.hid p3
        clear rr bb CA3
        go_wp2_with fail
        refine hK.out _ _ z9 (fun hHeld => ?_)
        clear hK K
        (try simp only [Act.put, List.setIfInBounds_toArray, List.set_cons_zero, List.set_cons_succ])
        refine wpAnyH_ready (rs := [29]) (by kernel_rfl) (by simp) ?_
        refine AllReadyH.cons rfl (fun K hK => ?_) AllReadyH.nil
        go_simp
        refine (CI3.out _ z9.2.2.2.2.2.2.2.2.2.2.2.2.2.2.2.2.2.2.2.2.2.2).mono ?_
        rintro e u10 ⟨v, rfl, oo, bb⟩
        obtain ⟨I3, di3, rfl, hi3, -, -, -, -⟩ := oo.slice
        rw [hns] at hi3 ⊢
        have z10 := hSof.out _ _ z9 bb
        replace p3 := Lib.hid (p3.out.below bb)
        replace hi3 := Lib.hid hi3
        clear oo bb CI3
        go_wp2_with fail
        refine hK.out _ _ z10 (fun hHeld => ?_)
        clear hK K
        (try simp only [Act.put, List.setIfInBounds_toArray, List.set_cons_zero, List.set_cons_succ])
        refine wpAnyH_ready (rs := [31]) (by kernel_rfl) (by simp) ?_
        refine AllReadyH.cons rfl (fun K hK => ?_) AllReadyH.nil
        go_simp
        refine (CR3.out _ _ _ hi3.out).mono ?_
        rintro e u11 ⟨v, rfl, rr, bb⟩
        obtain ⟨R3, dr3, rfl, r3, -, -, -, -⟩ := rr.slice iX3.out
        rw [hnx3.out] at r3 ⊢
        have z11 := hSof.out _ _ z10 bb
        replace p3 := Lib.hid (p3.out.below bb)
        replace r3 := Lib.hid r3
        clear rr bb CR3 hi3
        go_wp2_with fail
        refine hK.out _ _ z11 (fun hHeld => ?_)
        clear hK K
        (try simp only [Act.put, List.setIfInBounds_toArray, List.set_cons_zero, List.set_cons_succ])
        refine wpAnyH_ready (rs := [32]) (by kernel_rfl) (by simp) ?_
        refine AllReadyH.cons rfl (fun K hK => ?_) AllReadyH.nil
        go_simp
        refine (Same_yes P3 R3 nx3 d3 dr3 X3 u11 (by omega) p3 r3).mono ?_
        rintro e ux ⟨rfl, dd, rfl⟩
        have z12 := hSof.out _ _ z11 (below_drewN (Below.refl u11.heap.size u11) dd)
        clear p3 r3
        obtain ⟨u12, hu12⟩ : ∃ x, u11.drewN dd = x := ⟨_, rfl⟩
        rw [hu12] at z12 ⊢
        clear hu12
        go_wp2_with fail
        refine hK.out _ _ z12 (fun hHeld => ?_)
        clear hK K
        (try simp only [Act.put, List.setIfInBounds_toArray, List.set_cons_zero, List.set_cons_succ])
        refine wpAnyH_take (i := 33) (v := .bool true) rfl (by kernel_rfl) (by kernel_rfl) (by kernel_rfl) (fun _ _ _ h => h) (Or.inl ⟨by kernel_rfl, fun W hSw => ?_⟩) (by assumption) ?_
        · (try dsimp only at hSw)
          go_simp
        (try simp only [Act.put, List.setIfInBounds_toArray, List.set_cons_zero, List.set_cons_succ])
        refine wpAnyH_take (i := 34) (v := .bool true) rfl (by kernel_rfl) (by kernel_rfl) (by kernel_rfl) (fun _ _ _ h => h) (Or.inl ⟨by kernel_rfl, fun W hSw => ?_⟩) (by assumption) ?_
        · (try dsimp only at hSw)
          go_simp
        (try simp only [Act.put, List.setIfInBounds_toArray, List.set_cons_zero, List.set_cons_succ])
        refine wpAnyH_ready (rs := [35]) (by kernel_rfl) (by simp) ?_
        refine AllReadyH.cons rfl (fun K hK => ?_) AllReadyH.nil
        go_simp
        refine (Known_any _).mono ?_
        rintro e u13 ⟨rfl, bb⟩
        have z13 := hSof.out _ _ z12 bb
        clear bb
        go_wp2_with fail
        refine hK.out _ _ z13 (fun hHeld => ?_)
        clear hK K
        (try simp only [Act.put, List.setIfInBounds_toArray, List.set_cons_zero, List.set_cons_succ])
        refine wpAnyH_take (i := 36) (v := .bool true) rfl (by kernel_rfl) (by kernel_rfl) (by kernel_rfl) (fun _ _ _ h => h) (Or.inl ⟨by kernel_rfl, fun W hSw => ?_⟩) (by assumption) ?_
        · (try dsimp only at hSw)
          go_simp
        (try simp only [Act.put, List.setIfInBounds_toArray, List.set_cons_zero, List.set_cons_succ])
        refine wpAnyH_take (i := 37) (v := .bool true) rfl (by kernel_rfl) (by kernel_rfl) (by kernel_rfl) (fun _ _ _ h => h) (Or.inl ⟨by kernel_rfl, fun W hSw => ?_⟩) (by assumption) ?_
        · (try dsimp only at hSw)
          go_simp
        (try simp only [Act.put, List.setIfInBounds_toArray, List.set_cons_zero, List.set_cons_succ])
        refine wpAnyH_done (by kernel_rfl) ?_ _
        (try simp only [List.getElem_toArray, List.getElem_cons_succ, List.getElem_cons_zero, Act.put, List.setIfInBounds_toArray, List.set_cons_zero, List.set_cons_succ])
        have BB := Lib.hid (below_up hBz.out z13.2.2.2.2.2.2.2.2.2.2.2.2.2.2.2.2.2.2.2.2.2.2)
        clear z13 hHeld
        go_wp2_with fail
        go_ret
        exact ⟨rfl, by first | exact BB.out | (rw [← epb.out]; exact BB.out)⟩
      · have d60 : decide (60 < n) = false := decide_eq_false h60
        have d60' : decide ((60 : Int) < (n : Int)) = false := decide_eq_false (by omega)
        have hA' := hA
        have hokA := hok
        clear hA
        go_upto_region 11 with (fail)
        rw [ewz.out, erb.out]
        clear ewz erb d60 d60'
        have hlA : (L).length = n := hA'.out.1
        have canS := Lib.hid fair.out.can
        obtain ⟨X1, nx1, hX1, hnx1, fx1, iX1⟩ := alloc_letters (PD.rule ⟨codes, A1s, n1s, c1s, ticks, lows, highs, wides, rules, tops, leasts, parts, A2s, n2s, c2s, Qs, Rs⟩) (PD.top ⟨codes, A1s, n1s, c1s, ticks, lows, highs, wides, rules, tops, leasts, parts, A2s, n2s, c2s, Qs, Rs⟩) (PD.least ⟨codes, A1s, n1s, c1s, ticks, lows, highs, wides, rules, tops, leasts, parts, A2s, n2s, c2s, Qs, Rs⟩) (PD.part ⟨codes, A1s, n1s, c1s, ticks, lows, highs, wides, rules, tops, leasts, parts, A2s, n2s, c2s, Qs, Rs⟩) SO (k : Int)
        have CA1 : Hid (∀ W, Below wz.heap.size wz W → Calls Try.prog 9 #[.agg #[.string (str codes), .slice A1s n1s c1s, .int .i64 ticks, .int .i64 lows, .int .i64 highs, .int .i64 wides, .int .i64 rules, .int .i64 tops, .int .i64 leasts, .int .i64 parts, .slice A2s n2s c2s], .slice Ao ns co, .int .i64 (k : Int)] W (Gave W X1)) := Lib.hid (fun W b => by rw [← hX1]; exact AShare_any ⟨codes, A1s, n1s, c1s, ticks, lows, highs, wides, rules, tops, leasts, parts, A2s, n2s, c2s, Qs, Rs⟩ Ao ns co SO (k : Int) W (by omega) (by omega) (by omega) canS (Lib.hid (h2.out.below b)) okO0)
        have CI1 : Hid (∀ W, Below wz.heap.size wz W → Calls Try.prog 11 #[.slice Ao ns co] W (GaveO 47 W SO)) := Lib.hid (fun W b => In_any Ao ns co SO W (by omega) (Lib.hid (h2.out.below b)) okO0)
        have CR1 : Hid (∀ (W : World) (B : Option Addr) (d : Nat), HV fO W B ns SO → Calls Try.prog 10 #[.agg #[.string (str codes), .slice A1s n1s c1s, .int .i64 ticks, .int .i64 lows, .int .i64 highs, .int .i64 wides, .int .i64 rules, .int .i64 tops, .int .i64 leasts, .int .i64 parts, .slice A2s n2s c2s], .slice B ns d, .int .i64 (k : Int)] W (Gave W X1)) := Lib.hid (fun W B d hb => by rw [← hX1]; exact RAlloc_any ⟨codes, A1s, n1s, c1s, ticks, lows, highs, wides, rules, tops, leasts, parts, A2s, n2s, c2s, Qs, Rs⟩ B ns d SO (k : Int) W (by omega) (by omega) (by omega) canS (Lib.hid hb) okO0)
        replace hX1 := Lib.hid hX1
        obtain ⟨X2, nx2, hX2, hnx2, fx2, iX2⟩ := alloc_letters (PD.rule ⟨code, A1, n1, c1, tick, low, high, wide, rule, top, least, part, A2, n2, c2, Q, R⟩) (PD.top ⟨code, A1, n1, c1, tick, low, high, wide, rule, top, least, part, A2, n2, c2, Q, R⟩) (PD.least ⟨code, A1, n1, c1, tick, low, high, wide, rule, top, least, part, A2, n2, c2, Q, R⟩) (PD.part ⟨code, A1, n1, c1, tick, low, high, wide, rule, top, least, part, A2, n2, c2, Q, R⟩) L q
        have CA2 : Hid (∀ W, Below wz.heap.size wz W → Calls Try.prog 9 #[.agg #[.string (str code), .slice A1 n1 c1, .int .i64 tick, .int .i64 low, .int .i64 high, .int .i64 wide, .int .i64 rule, .int .i64 top, .int .i64 least, .int .i64 part, .slice A2 n2 c2], .slice A n cap, .int .i64 q] W (Gave W X2)) := Lib.hid (fun W b => by rw [← hX2]; exact AShare_any ⟨code, A1, n1, c1, tick, low, high, wide, rule, top, least, part, A2, n2, c2, Q, R⟩ A n cap L q W (by omega) q1 q2 hcan (Lib.hid (hA'.out.below b)) hokA)
        have CI2 : Hid (∀ W, Below wz.heap.size wz W → Calls Try.prog 11 #[.slice A n cap] W (GaveO 47 W L)) := Lib.hid (fun W b => In_any A n cap L W (by omega) (Lib.hid (hA'.out.below b)) hokA)
        have CR2 : Hid (∀ (W : World) (B : Option Addr) (d : Nat), HV fO W B n L → Calls Try.prog 10 #[.agg #[.string (str code), .slice A1 n1 c1, .int .i64 tick, .int .i64 low, .int .i64 high, .int .i64 wide, .int .i64 rule, .int .i64 top, .int .i64 least, .int .i64 part, .slice A2 n2 c2], .slice B n d, .int .i64 q] W (Gave W X2)) := Lib.hid (fun W B d hb => by rw [← hX2]; exact RAlloc_any ⟨code, A1, n1, c1, tick, low, high, wide, rule, top, least, part, A2, n2, c2, Q, R⟩ B n d L q W (by omega) q1 q2 hcan (Lib.hid hb) hokA)
        replace hX2 := Lib.hid hX2
        obtain ⟨X3, nx3, hX3, hnx3, fx3, iX3⟩ := alloc_letters (PD.rule ⟨code, A1, n1, c1, tick, low, high, wide, rule, top, least, part, A2, n2, c2, Q, R⟩) (PD.top ⟨code, A1, n1, c1, tick, low, high, wide, rule, top, least, part, A2, n2, c2, Q, R⟩) (PD.least ⟨code, A1, n1, c1, tick, low, high, wide, rule, top, least, part, A2, n2, c2, Q, R⟩) (PD.part ⟨code, A1, n1, c1, tick, low, high, wide, rule, top, least, part, A2, n2, c2, Q, R⟩) SO (k : Int)
        have CA3 : Hid (∀ W, Below wz.heap.size wz W → Calls Try.prog 9 #[.agg #[.string (str code), .slice A1 n1 c1, .int .i64 tick, .int .i64 low, .int .i64 high, .int .i64 wide, .int .i64 rule, .int .i64 top, .int .i64 least, .int .i64 part, .slice A2 n2 c2], .slice Ao ns co, .int .i64 (k : Int)] W (Gave W X3)) := Lib.hid (fun W b => by rw [← hX3]; exact AShare_any ⟨code, A1, n1, c1, tick, low, high, wide, rule, top, least, part, A2, n2, c2, Q, R⟩ Ao ns co SO (k : Int) W (by omega) (by omega) (by omega) hcan (Lib.hid (h2.out.below b)) okO0)
        have CI3 : Hid (∀ W, Below wz.heap.size wz W → Calls Try.prog 11 #[.slice Ao ns co] W (GaveO 47 W SO)) := Lib.hid (fun W b => In_any Ao ns co SO W (by omega) (Lib.hid (h2.out.below b)) okO0)
        have CR3 : Hid (∀ (W : World) (B : Option Addr) (d : Nat), HV fO W B ns SO → Calls Try.prog 10 #[.agg #[.string (str code), .slice A1 n1 c1, .int .i64 tick, .int .i64 low, .int .i64 high, .int .i64 wide, .int .i64 rule, .int .i64 top, .int .i64 least, .int .i64 part, .slice A2 n2 c2], .slice B ns d, .int .i64 (k : Int)] W (Gave W X3)) := Lib.hid (fun W B d hb => by rw [← hX3]; exact RAlloc_any ⟨code, A1, n1, c1, tick, low, high, wide, rule, top, least, part, A2, n2, c2, Q, R⟩ B ns d SO (k : Int) W (by omega) (by omega) (by omega) hcan (Lib.hid hb) okO0)
        replace hX3 := Lib.hid hX3
        have hSof : Hid (∀ W W' : World, (fun W : World => W.cell? ⟨pb, 0, none⟩ = some (.string (str code)) ∧ W.cell? ⟨pb, 1, none⟩ = some (.slice A1 n1 c1) ∧ W.cell? ⟨pb, 2, none⟩ = some (.int .i64 tick) ∧ W.cell? ⟨pb, 3, none⟩ = some (.int .i64 low) ∧ W.cell? ⟨pb, 4, none⟩ = some (.int .i64 high) ∧ W.cell? ⟨pb, 5, none⟩ = some (.int .i64 wide) ∧ W.cell? ⟨pb, 6, none⟩ = some (.int .i64 rule) ∧ W.cell? ⟨pb, 7, none⟩ = some (.int .i64 top) ∧ W.cell? ⟨pb, 8, none⟩ = some (.int .i64 least) ∧ W.cell? ⟨pb, 9, none⟩ = some (.int .i64 part) ∧ W.cell? ⟨pb, 10, none⟩ = some (.slice A2 n2 c2) ∧ W.cell? ⟨rb, 0, none⟩ = some (.string (str codes)) ∧ W.cell? ⟨rb, 1, none⟩ = some (.slice A1s n1s c1s) ∧ W.cell? ⟨rb, 2, none⟩ = some (.int .i64 ticks) ∧ W.cell? ⟨rb, 3, none⟩ = some (.int .i64 lows) ∧ W.cell? ⟨rb, 4, none⟩ = some (.int .i64 highs) ∧ W.cell? ⟨rb, 5, none⟩ = some (.int .i64 wides) ∧ W.cell? ⟨rb, 6, none⟩ = some (.int .i64 rules) ∧ W.cell? ⟨rb, 7, none⟩ = some (.int .i64 tops) ∧ W.cell? ⟨rb, 8, none⟩ = some (.int .i64 leasts) ∧ W.cell? ⟨rb, 9, none⟩ = some (.int .i64 parts) ∧ W.cell? ⟨rb, 10, none⟩ = some (.slice A2s n2s c2s) ∧ Below wz.heap.size wz W) W → Below W.heap.size W W' → (fun W : World => W.cell? ⟨pb, 0, none⟩ = some (.string (str code)) ∧ W.cell? ⟨pb, 1, none⟩ = some (.slice A1 n1 c1) ∧ W.cell? ⟨pb, 2, none⟩ = some (.int .i64 tick) ∧ W.cell? ⟨pb, 3, none⟩ = some (.int .i64 low) ∧ W.cell? ⟨pb, 4, none⟩ = some (.int .i64 high) ∧ W.cell? ⟨pb, 5, none⟩ = some (.int .i64 wide) ∧ W.cell? ⟨pb, 6, none⟩ = some (.int .i64 rule) ∧ W.cell? ⟨pb, 7, none⟩ = some (.int .i64 top) ∧ W.cell? ⟨pb, 8, none⟩ = some (.int .i64 least) ∧ W.cell? ⟨pb, 9, none⟩ = some (.int .i64 part) ∧ W.cell? ⟨pb, 10, none⟩ = some (.slice A2 n2 c2) ∧ W.cell? ⟨rb, 0, none⟩ = some (.string (str codes)) ∧ W.cell? ⟨rb, 1, none⟩ = some (.slice A1s n1s c1s) ∧ W.cell? ⟨rb, 2, none⟩ = some (.int .i64 ticks) ∧ W.cell? ⟨rb, 3, none⟩ = some (.int .i64 lows) ∧ W.cell? ⟨rb, 4, none⟩ = some (.int .i64 highs) ∧ W.cell? ⟨rb, 5, none⟩ = some (.int .i64 wides) ∧ W.cell? ⟨rb, 6, none⟩ = some (.int .i64 rules) ∧ W.cell? ⟨rb, 7, none⟩ = some (.int .i64 tops) ∧ W.cell? ⟨rb, 8, none⟩ = some (.int .i64 leasts) ∧ W.cell? ⟨rb, 9, none⟩ = some (.int .i64 parts) ∧ W.cell? ⟨rb, 10, none⟩ = some (.slice A2s n2s c2s) ∧ Below wz.heap.size wz W) W') := Lib.hid (fun W W' hs b => ⟨(b.cell (World.block_lt_of_cell? W _ hs.1)).trans hs.1, (b.cell (World.block_lt_of_cell? W _ hs.2.1)).trans hs.2.1, (b.cell (World.block_lt_of_cell? W _ hs.2.2.1)).trans hs.2.2.1, (b.cell (World.block_lt_of_cell? W _ hs.2.2.2.1)).trans hs.2.2.2.1, (b.cell (World.block_lt_of_cell? W _ hs.2.2.2.2.1)).trans hs.2.2.2.2.1, (b.cell (World.block_lt_of_cell? W _ hs.2.2.2.2.2.1)).trans hs.2.2.2.2.2.1, (b.cell (World.block_lt_of_cell? W _ hs.2.2.2.2.2.2.1)).trans hs.2.2.2.2.2.2.1, (b.cell (World.block_lt_of_cell? W _ hs.2.2.2.2.2.2.2.1)).trans hs.2.2.2.2.2.2.2.1, (b.cell (World.block_lt_of_cell? W _ hs.2.2.2.2.2.2.2.2.1)).trans hs.2.2.2.2.2.2.2.2.1, (b.cell (World.block_lt_of_cell? W _ hs.2.2.2.2.2.2.2.2.2.1)).trans hs.2.2.2.2.2.2.2.2.2.1, (b.cell (World.block_lt_of_cell? W _ hs.2.2.2.2.2.2.2.2.2.2.1)).trans hs.2.2.2.2.2.2.2.2.2.2.1, (b.cell (World.block_lt_of_cell? W _ hs.2.2.2.2.2.2.2.2.2.2.2.1)).trans hs.2.2.2.2.2.2.2.2.2.2.2.1, (b.cell (World.block_lt_of_cell? W _ hs.2.2.2.2.2.2.2.2.2.2.2.2.1)).trans hs.2.2.2.2.2.2.2.2.2.2.2.2.1, (b.cell (World.block_lt_of_cell? W _ hs.2.2.2.2.2.2.2.2.2.2.2.2.2.1)).trans hs.2.2.2.2.2.2.2.2.2.2.2.2.2.1, (b.cell (World.block_lt_of_cell? W _ hs.2.2.2.2.2.2.2.2.2.2.2.2.2.2.1)).trans hs.2.2.2.2.2.2.2.2.2.2.2.2.2.2.1, (b.cell (World.block_lt_of_cell? W _ hs.2.2.2.2.2.2.2.2.2.2.2.2.2.2.2.1)).trans hs.2.2.2.2.2.2.2.2.2.2.2.2.2.2.2.1, (b.cell (World.block_lt_of_cell? W _ hs.2.2.2.2.2.2.2.2.2.2.2.2.2.2.2.2.1)).trans hs.2.2.2.2.2.2.2.2.2.2.2.2.2.2.2.2.1, (b.cell (World.block_lt_of_cell? W _ hs.2.2.2.2.2.2.2.2.2.2.2.2.2.2.2.2.2.1)).trans hs.2.2.2.2.2.2.2.2.2.2.2.2.2.2.2.2.2.1, (b.cell (World.block_lt_of_cell? W _ hs.2.2.2.2.2.2.2.2.2.2.2.2.2.2.2.2.2.2.1)).trans hs.2.2.2.2.2.2.2.2.2.2.2.2.2.2.2.2.2.2.1, (b.cell (World.block_lt_of_cell? W _ hs.2.2.2.2.2.2.2.2.2.2.2.2.2.2.2.2.2.2.2.1)).trans hs.2.2.2.2.2.2.2.2.2.2.2.2.2.2.2.2.2.2.2.1, (b.cell (World.block_lt_of_cell? W _ hs.2.2.2.2.2.2.2.2.2.2.2.2.2.2.2.2.2.2.2.2.1)).trans hs.2.2.2.2.2.2.2.2.2.2.2.2.2.2.2.2.2.2.2.2.1, (b.cell (World.block_lt_of_cell? W _ hs.2.2.2.2.2.2.2.2.2.2.2.2.2.2.2.2.2.2.2.2.2.1)).trans hs.2.2.2.2.2.2.2.2.2.2.2.2.2.2.2.2.2.2.2.2.2.1, hs.2.2.2.2.2.2.2.2.2.2.2.2.2.2.2.2.2.2.2.2.2.2.trans (b.mono hs.2.2.2.2.2.2.2.2.2.2.2.2.2.2.2.2.2.2.2.2.2.2.size)⟩)
        have bzz : Below wz.heap.size wz wz.drew := (Below.refl _ wz).drew
        obtain ⟨x0, x1, x2, x3, x4, x5, x6, x7, x8, x9, x10⟩ := row11 (pd_block (p := ⟨code, A1, n1, c1, tick, low, high, wide, rule, top, least, part, A2, n2, c2, Q, R⟩) hpz.out bzz)
        obtain ⟨y0, y1, y2, y3, y4, y5, y6, y7, y8, y9, y10⟩ := row11 (pd_block (p := ⟨codes, A1s, n1s, c1s, ticks, lows, highs, wides, rules, tops, leasts, parts, A2s, n2s, c2s, Qs, Rs⟩) hrz.out bzz)
        have z0 : (fun W : World => W.cell? ⟨pb, 0, none⟩ = some (.string (str code)) ∧ W.cell? ⟨pb, 1, none⟩ = some (.slice A1 n1 c1) ∧ W.cell? ⟨pb, 2, none⟩ = some (.int .i64 tick) ∧ W.cell? ⟨pb, 3, none⟩ = some (.int .i64 low) ∧ W.cell? ⟨pb, 4, none⟩ = some (.int .i64 high) ∧ W.cell? ⟨pb, 5, none⟩ = some (.int .i64 wide) ∧ W.cell? ⟨pb, 6, none⟩ = some (.int .i64 rule) ∧ W.cell? ⟨pb, 7, none⟩ = some (.int .i64 top) ∧ W.cell? ⟨pb, 8, none⟩ = some (.int .i64 least) ∧ W.cell? ⟨pb, 9, none⟩ = some (.int .i64 part) ∧ W.cell? ⟨pb, 10, none⟩ = some (.slice A2 n2 c2) ∧ W.cell? ⟨rb, 0, none⟩ = some (.string (str codes)) ∧ W.cell? ⟨rb, 1, none⟩ = some (.slice A1s n1s c1s) ∧ W.cell? ⟨rb, 2, none⟩ = some (.int .i64 ticks) ∧ W.cell? ⟨rb, 3, none⟩ = some (.int .i64 lows) ∧ W.cell? ⟨rb, 4, none⟩ = some (.int .i64 highs) ∧ W.cell? ⟨rb, 5, none⟩ = some (.int .i64 wides) ∧ W.cell? ⟨rb, 6, none⟩ = some (.int .i64 rules) ∧ W.cell? ⟨rb, 7, none⟩ = some (.int .i64 tops) ∧ W.cell? ⟨rb, 8, none⟩ = some (.int .i64 leasts) ∧ W.cell? ⟨rb, 9, none⟩ = some (.int .i64 parts) ∧ W.cell? ⟨rb, 10, none⟩ = some (.slice A2s n2s c2s) ∧ Below wz.heap.size wz W) wz.drew := ⟨x0, x1, x2, x3, x4, x5, x6, x7, x8, x9, x10, y0, y1, y2, y3, y4, y5, y6, y7, y8, y9, y10, bzz⟩
        clear x0 x1 x2 x3 x4 x5 x6 x7 x8 x9 x10 y0 y1 y2 y3 y4 y5 y6 y7 y8 y9 y10 bzz hpz hrz h2 hA' hokA okO0 okS0 iS hm hok h canS fair hcan
        replace hnx1 := Lib.hid hnx1
        replace hnx2 := Lib.hid hnx2
        replace hnx3 := Lib.hid hnx3
        refine wp_region_held_drew (S := (fun W : World => W.cell? ⟨pb, 0, none⟩ = some (.string (str code)) ∧ W.cell? ⟨pb, 1, none⟩ = some (.slice A1 n1 c1) ∧ W.cell? ⟨pb, 2, none⟩ = some (.int .i64 tick) ∧ W.cell? ⟨pb, 3, none⟩ = some (.int .i64 low) ∧ W.cell? ⟨pb, 4, none⟩ = some (.int .i64 high) ∧ W.cell? ⟨pb, 5, none⟩ = some (.int .i64 wide) ∧ W.cell? ⟨pb, 6, none⟩ = some (.int .i64 rule) ∧ W.cell? ⟨pb, 7, none⟩ = some (.int .i64 top) ∧ W.cell? ⟨pb, 8, none⟩ = some (.int .i64 least) ∧ W.cell? ⟨pb, 9, none⟩ = some (.int .i64 part) ∧ W.cell? ⟨pb, 10, none⟩ = some (.slice A2 n2 c2) ∧ W.cell? ⟨rb, 0, none⟩ = some (.string (str codes)) ∧ W.cell? ⟨rb, 1, none⟩ = some (.slice A1s n1s c1s) ∧ W.cell? ⟨rb, 2, none⟩ = some (.int .i64 ticks) ∧ W.cell? ⟨rb, 3, none⟩ = some (.int .i64 lows) ∧ W.cell? ⟨rb, 4, none⟩ = some (.int .i64 highs) ∧ W.cell? ⟨rb, 5, none⟩ = some (.int .i64 wides) ∧ W.cell? ⟨rb, 6, none⟩ = some (.int .i64 rules) ∧ W.cell? ⟨rb, 7, none⟩ = some (.int .i64 tops) ∧ W.cell? ⟨rb, 8, none⟩ = some (.int .i64 leasts) ∧ W.cell? ⟨rb, 9, none⟩ = some (.int .i64 parts) ∧ W.cell? ⟨rb, 10, none⟩ = some (.slice A2s n2s c2s) ∧ Below wz.heap.size wz W)) (by kernel_rfl) z0 (fun hHeld => ?_)
        refine wpAnyH_take (i := 0) (v := .agg #[.string (str codes), .slice A1s n1s c1s, .int .i64 ticks, .int .i64 lows, .int .i64 highs, .int .i64 wides, .int .i64 rules, .int .i64 tops, .int .i64 leasts, .int .i64 parts, .slice A2s n2s c2s]) rfl (by kernel_rfl) (by kernel_rfl) (by kernel_rfl) (fun _ _ _ h => h) (Or.inl ⟨by kernel_rfl, fun W hSw => ?_⟩) (by assumption) ?_
        · (try dsimp only at hSw)
          go_simp
        (try simp only [Act.put, List.setIfInBounds_toArray, List.set_cons_zero, List.set_cons_succ])
        refine wpAnyH_take (i := 1) (v := .slice Ao ns co) rfl (by kernel_rfl) (by kernel_rfl) (by kernel_rfl) (fun _ _ _ h => h) (Or.inl ⟨by kernel_rfl, fun W hSw => ?_⟩) (by assumption) ?_
        · (try dsimp only at hSw)
          go_simp
        (try simp only [Act.put, List.setIfInBounds_toArray, List.set_cons_zero, List.set_cons_succ])
        refine wpAnyH_take (i := 2) (v := .int .i64 (k : Int)) rfl (by kernel_rfl) (by kernel_rfl) (by kernel_rfl) (fun _ _ _ h => h) (Or.inl ⟨by kernel_rfl, fun W hSw => ?_⟩) (by assumption) ?_
        · (try dsimp only at hSw)
          go_simp
        (try simp only [Act.put, List.setIfInBounds_toArray, List.set_cons_zero, List.set_cons_succ])
        refine wpAnyH_take (i := 4) (v := .agg #[.string (str codes), .slice A1s n1s c1s, .int .i64 ticks, .int .i64 lows, .int .i64 highs, .int .i64 wides, .int .i64 rules, .int .i64 tops, .int .i64 leasts, .int .i64 parts, .slice A2s n2s c2s]) rfl (by kernel_rfl) (by kernel_rfl) (by kernel_rfl) (fun _ _ _ h => h) (Or.inl ⟨by kernel_rfl, fun W hSw => ?_⟩) (by assumption) ?_
        · (try dsimp only at hSw)
          go_simp
        (try simp only [Act.put, List.setIfInBounds_toArray, List.set_cons_zero, List.set_cons_succ])
        refine wpAnyH_take (i := 5) (v := .slice Ao ns co) rfl (by kernel_rfl) (by kernel_rfl) (by kernel_rfl) (fun _ _ _ h => h) (Or.inl ⟨by kernel_rfl, fun W hSw => ?_⟩) (by assumption) ?_
        · (try dsimp only at hSw)
          go_simp
        (try simp only [Act.put, List.setIfInBounds_toArray, List.set_cons_zero, List.set_cons_succ])
        refine wpAnyH_take (i := 7) (v := .int .i64 (k : Int)) rfl (by kernel_rfl) (by kernel_rfl) (by kernel_rfl) (fun _ _ _ h => h) (Or.inl ⟨by kernel_rfl, fun W hSw => ?_⟩) (by assumption) ?_
        · (try dsimp only at hSw)
          go_simp
        (try simp only [Act.put, List.setIfInBounds_toArray, List.set_cons_zero, List.set_cons_succ])
        refine wpAnyH_ready (rs := [3]) (by kernel_rfl) (by simp) ?_
        refine AllReadyH.cons rfl (fun K hK => ?_) AllReadyH.nil
        go_simp
        refine (CA1.out _ z0.2.2.2.2.2.2.2.2.2.2.2.2.2.2.2.2.2.2.2.2.2.2).mono ?_
        rintro e u1 ⟨v, rfl, rr, bb⟩
        obtain ⟨P1, d1, rfl, p1, -, -, -, -⟩ := rr.slice iX1.out
        rw [hnx1.out] at p1 ⊢
        have z1 := hSof.out _ _ z0 bb
        replace p1 := Lib.hid p1
        clear rr bb CA1
        go_wp2_with fail
        refine hK.out _ _ z1 (fun hHeld => ?_)
        clear hK K
        (try simp only [Act.put, List.setIfInBounds_toArray, List.set_cons_zero, List.set_cons_succ])
        refine wpAnyH_ready (rs := [6]) (by kernel_rfl) (by simp) ?_
        refine AllReadyH.cons rfl (fun K hK => ?_) AllReadyH.nil
        go_simp
        refine (CI1.out _ z1.2.2.2.2.2.2.2.2.2.2.2.2.2.2.2.2.2.2.2.2.2.2).mono ?_
        rintro e u2 ⟨v, rfl, oo, bb⟩
        obtain ⟨I1, di1, rfl, hi1, -, -, -, -⟩ := oo.slice
        rw [hns] at hi1 ⊢
        have z2 := hSof.out _ _ z1 bb
        replace p1 := Lib.hid (p1.out.below bb)
        replace hi1 := Lib.hid hi1
        clear oo bb CI1
        go_wp2_with fail
        refine hK.out _ _ z2 (fun hHeld => ?_)
        clear hK K
        (try simp only [Act.put, List.setIfInBounds_toArray, List.set_cons_zero, List.set_cons_succ])
        refine wpAnyH_ready (rs := [8]) (by kernel_rfl) (by simp) ?_
        refine AllReadyH.cons rfl (fun K hK => ?_) AllReadyH.nil
        go_simp
        refine (CR1.out _ _ _ hi1.out).mono ?_
        rintro e u3 ⟨v, rfl, rr, bb⟩
        obtain ⟨R1, dr1, rfl, r1, -, -, -, -⟩ := rr.slice iX1.out
        rw [hnx1.out] at r1 ⊢
        have z3 := hSof.out _ _ z2 bb
        replace p1 := Lib.hid (p1.out.below bb)
        replace r1 := Lib.hid r1
        clear rr bb CR1 hi1
        go_wp2_with fail
        refine hK.out _ _ z3 (fun hHeld => ?_)
        clear hK K
        (try simp only [Act.put, List.setIfInBounds_toArray, List.set_cons_zero, List.set_cons_succ])
        refine wpAnyH_ready (rs := [9]) (by kernel_rfl) (by simp) ?_
        refine AllReadyH.cons rfl (fun K hK => ?_) AllReadyH.nil
        go_simp
        refine (Same_yes P1 R1 nx1 d1 dr1 X1 u3 (by omega) p1 r1).mono ?_
        rintro e ux ⟨rfl, dd, rfl⟩
        have z4 := hSof.out _ _ z3 (below_drewN (Below.refl u3.heap.size u3) dd)
        clear p1 r1
        obtain ⟨u4, hu4⟩ : ∃ x, u3.drewN dd = x := ⟨_, rfl⟩
        rw [hu4] at z4 ⊢
        clear hu4
        go_wp2_with fail
        refine hK.out _ _ z4 (fun hHeld => ?_)
        clear hK K
        (try simp only [Act.put, List.setIfInBounds_toArray, List.set_cons_zero, List.set_cons_succ])
        refine wpAnyH_take (i := 10) (v := .bool true) rfl (by kernel_rfl) (by kernel_rfl) (by kernel_rfl) (fun _ _ _ h => h) (Or.inl ⟨by kernel_rfl, fun W hSw => ?_⟩) (by assumption) ?_
        · (try dsimp only at hSw)
          go_simp
        (try simp only [Act.put, List.setIfInBounds_toArray, List.set_cons_zero, List.set_cons_succ])
        refine wpAnyH_take (i := 11) (v := .agg #[.string (str code), .slice A1 n1 c1, .int .i64 tick, .int .i64 low, .int .i64 high, .int .i64 wide, .int .i64 rule, .int .i64 top, .int .i64 least, .int .i64 part, .slice A2 n2 c2]) rfl (by kernel_rfl) (by kernel_rfl) (by kernel_rfl) (fun _ _ _ h => h) (Or.inl ⟨by kernel_rfl, fun W hSw => ?_⟩) (by assumption) ?_
        · (try dsimp only at hSw)
          go_simp
        (try simp only [Act.put, List.setIfInBounds_toArray, List.set_cons_zero, List.set_cons_succ])
        refine wpAnyH_take (i := 12) (v := .slice A n cap) rfl (by kernel_rfl) (by kernel_rfl) (by kernel_rfl) (fun _ _ _ h => h) (Or.inl ⟨by kernel_rfl, fun W hSw => ?_⟩) (by assumption) ?_
        · (try dsimp only at hSw)
          go_simp
        (try simp only [Act.put, List.setIfInBounds_toArray, List.set_cons_zero, List.set_cons_succ])
        refine wpAnyH_take (i := 13) (v := .int .i64 q) rfl (by kernel_rfl) (by kernel_rfl) (by kernel_rfl) (fun _ _ _ h => h) (Or.inl ⟨by kernel_rfl, fun W hSw => ?_⟩) (by assumption) ?_
        · (try dsimp only at hSw)
          go_simp
        (try simp only [Act.put, List.setIfInBounds_toArray, List.set_cons_zero, List.set_cons_succ])
        refine wpAnyH_take (i := 15) (v := .agg #[.string (str code), .slice A1 n1 c1, .int .i64 tick, .int .i64 low, .int .i64 high, .int .i64 wide, .int .i64 rule, .int .i64 top, .int .i64 least, .int .i64 part, .slice A2 n2 c2]) rfl (by kernel_rfl) (by kernel_rfl) (by kernel_rfl) (fun _ _ _ h => h) (Or.inl ⟨by kernel_rfl, fun W hSw => ?_⟩) (by assumption) ?_
        · (try dsimp only at hSw)
          go_simp
        (try simp only [Act.put, List.setIfInBounds_toArray, List.set_cons_zero, List.set_cons_succ])
        refine wpAnyH_take (i := 16) (v := .slice A n cap) rfl (by kernel_rfl) (by kernel_rfl) (by kernel_rfl) (fun _ _ _ h => h) (Or.inl ⟨by kernel_rfl, fun W hSw => ?_⟩) (by assumption) ?_
        · (try dsimp only at hSw)
          go_simp
        (try simp only [Act.put, List.setIfInBounds_toArray, List.set_cons_zero, List.set_cons_succ])
        refine wpAnyH_take (i := 18) (v := .int .i64 q) rfl (by kernel_rfl) (by kernel_rfl) (by kernel_rfl) (fun _ _ _ h => h) (Or.inl ⟨by kernel_rfl, fun W hSw => ?_⟩) (by assumption) ?_
        · (try dsimp only at hSw)
          go_simp
        (try simp only [Act.put, List.setIfInBounds_toArray, List.set_cons_zero, List.set_cons_succ])
        refine wpAnyH_ready (rs := [14]) (by kernel_rfl) (by simp) ?_
        refine AllReadyH.cons rfl (fun K hK => ?_) AllReadyH.nil
        go_simp
        refine (CA2.out _ z4.2.2.2.2.2.2.2.2.2.2.2.2.2.2.2.2.2.2.2.2.2.2).mono ?_
        rintro e u5 ⟨v, rfl, rr, bb⟩
        obtain ⟨P2, d2, rfl, p2, -, -, -, -⟩ := rr.slice iX2.out
        rw [hnx2.out] at p2 ⊢
        have z5 := hSof.out _ _ z4 bb
        replace p2 := Lib.hid p2
        clear rr bb CA2
        go_wp2_with fail
        refine hK.out _ _ z5 (fun hHeld => ?_)
        clear hK K
        (try simp only [Act.put, List.setIfInBounds_toArray, List.set_cons_zero, List.set_cons_succ])
        refine wpAnyH_ready (rs := [17]) (by kernel_rfl) (by simp) ?_
        refine AllReadyH.cons rfl (fun K hK => ?_) AllReadyH.nil
        go_simp
        refine (CI2.out _ z5.2.2.2.2.2.2.2.2.2.2.2.2.2.2.2.2.2.2.2.2.2.2).mono ?_
        rintro e u6 ⟨v, rfl, oo, bb⟩
        obtain ⟨I2, di2, rfl, hi2, -, -, -, -⟩ := oo.slice
        rw [hlA] at hi2 ⊢
        have z6 := hSof.out _ _ z5 bb
        replace p2 := Lib.hid (p2.out.below bb)
        replace hi2 := Lib.hid hi2
        clear oo bb CI2
        go_wp2_with fail
        refine hK.out _ _ z6 (fun hHeld => ?_)
        clear hK K
        (try simp only [Act.put, List.setIfInBounds_toArray, List.set_cons_zero, List.set_cons_succ])
        refine wpAnyH_ready (rs := [19]) (by kernel_rfl) (by simp) ?_
        refine AllReadyH.cons rfl (fun K hK => ?_) AllReadyH.nil
        go_simp
        refine (CR2.out _ _ _ hi2.out).mono ?_
        rintro e u7 ⟨v, rfl, rr, bb⟩
        obtain ⟨R2, dr2, rfl, r2, -, -, -, -⟩ := rr.slice iX2.out
        rw [hnx2.out] at r2 ⊢
        have z7 := hSof.out _ _ z6 bb
        replace p2 := Lib.hid (p2.out.below bb)
        replace r2 := Lib.hid r2
        clear rr bb CR2 hi2
        go_wp2_with fail
        refine hK.out _ _ z7 (fun hHeld => ?_)
        clear hK K
        (try simp only [Act.put, List.setIfInBounds_toArray, List.set_cons_zero, List.set_cons_succ])
        refine wpAnyH_ready (rs := [20]) (by kernel_rfl) (by simp) ?_
        refine AllReadyH.cons rfl (fun K hK => ?_) AllReadyH.nil
        go_simp
        refine (Same_yes P2 R2 nx2 d2 dr2 X2 u7 (by omega) p2 r2).mono ?_
        rintro e ux ⟨rfl, dd, rfl⟩
        have z8 := hSof.out _ _ z7 (below_drewN (Below.refl u7.heap.size u7) dd)
        clear p2 r2
        obtain ⟨u8, hu8⟩ : ∃ x, u7.drewN dd = x := ⟨_, rfl⟩
        rw [hu8] at z8 ⊢
        clear hu8
        go_wp2_with fail
        refine hK.out _ _ z8 (fun hHeld => ?_)
        clear hK K
        (try simp only [Act.put, List.setIfInBounds_toArray, List.set_cons_zero, List.set_cons_succ])
        refine wpAnyH_take (i := 21) (v := .bool true) rfl (by kernel_rfl) (by kernel_rfl) (by kernel_rfl) (fun _ _ _ h => h) (Or.inl ⟨by kernel_rfl, fun W hSw => ?_⟩) (by assumption) ?_
        · (try dsimp only at hSw)
          go_simp
        (try simp only [Act.put, List.setIfInBounds_toArray, List.set_cons_zero, List.set_cons_succ])
        refine wpAnyH_take (i := 22) (v := .bool true) rfl (by kernel_rfl) (by kernel_rfl) (by kernel_rfl) (fun _ _ _ h => h) (Or.inl ⟨by kernel_rfl, fun W hSw => ?_⟩) (by assumption) ?_
        · (try dsimp only at hSw)
          go_simp
        (try simp only [Act.put, List.setIfInBounds_toArray, List.set_cons_zero, List.set_cons_succ])
        refine wpAnyH_take (i := 23) (v := .agg #[.string (str code), .slice A1 n1 c1, .int .i64 tick, .int .i64 low, .int .i64 high, .int .i64 wide, .int .i64 rule, .int .i64 top, .int .i64 least, .int .i64 part, .slice A2 n2 c2]) rfl (by kernel_rfl) (by kernel_rfl) (by kernel_rfl) (fun _ _ _ h => h) (Or.inl ⟨by kernel_rfl, fun W hSw => ?_⟩) (by assumption) ?_
        · (try dsimp only at hSw)
          go_simp
        (try simp only [Act.put, List.setIfInBounds_toArray, List.set_cons_zero, List.set_cons_succ])
        refine wpAnyH_take (i := 24) (v := .slice Ao ns co) rfl (by kernel_rfl) (by kernel_rfl) (by kernel_rfl) (fun _ _ _ h => h) (Or.inl ⟨by kernel_rfl, fun W hSw => ?_⟩) (by assumption) ?_
        · (try dsimp only at hSw)
          go_simp
        (try simp only [Act.put, List.setIfInBounds_toArray, List.set_cons_zero, List.set_cons_succ])
        refine wpAnyH_take (i := 25) (v := .int .i64 (k : Int)) rfl (by kernel_rfl) (by kernel_rfl) (by kernel_rfl) (fun _ _ _ h => h) (Or.inl ⟨by kernel_rfl, fun W hSw => ?_⟩) (by assumption) ?_
        · (try dsimp only at hSw)
          go_simp
        (try simp only [Act.put, List.setIfInBounds_toArray, List.set_cons_zero, List.set_cons_succ])
        refine wpAnyH_take (i := 27) (v := .agg #[.string (str code), .slice A1 n1 c1, .int .i64 tick, .int .i64 low, .int .i64 high, .int .i64 wide, .int .i64 rule, .int .i64 top, .int .i64 least, .int .i64 part, .slice A2 n2 c2]) rfl (by kernel_rfl) (by kernel_rfl) (by kernel_rfl) (fun _ _ _ h => h) (Or.inl ⟨by kernel_rfl, fun W hSw => ?_⟩) (by assumption) ?_
        · (try dsimp only at hSw)
          go_simp
        (try simp only [Act.put, List.setIfInBounds_toArray, List.set_cons_zero, List.set_cons_succ])
        refine wpAnyH_take (i := 28) (v := .slice Ao ns co) rfl (by kernel_rfl) (by kernel_rfl) (by kernel_rfl) (fun _ _ _ h => h) (Or.inl ⟨by kernel_rfl, fun W hSw => ?_⟩) (by assumption) ?_
        · (try dsimp only at hSw)
          go_simp
        (try simp only [Act.put, List.setIfInBounds_toArray, List.set_cons_zero, List.set_cons_succ])
        refine wpAnyH_take (i := 30) (v := .int .i64 (k : Int)) rfl (by kernel_rfl) (by kernel_rfl) (by kernel_rfl) (fun _ _ _ h => h) (Or.inl ⟨by kernel_rfl, fun W hSw => ?_⟩) (by assumption) ?_
        · (try dsimp only at hSw)
          go_simp
        (try simp only [Act.put, List.setIfInBounds_toArray, List.set_cons_zero, List.set_cons_succ])
        refine wpAnyH_ready (rs := [26]) (by kernel_rfl) (by simp) ?_
        refine AllReadyH.cons rfl (fun K hK => ?_) AllReadyH.nil
        go_simp
        refine (CA3.out _ z8.2.2.2.2.2.2.2.2.2.2.2.2.2.2.2.2.2.2.2.2.2.2).mono ?_
        rintro e u9 ⟨v, rfl, rr, bb⟩
        obtain ⟨P3, d3, rfl, p3, -, -, -, -⟩ := rr.slice iX3.out
        rw [hnx3.out] at p3 ⊢
        have z9 := hSof.out _ _ z8 bb
        replace p3 := Lib.hid p3
        clear rr bb CA3
        go_wp2_with fail
        refine hK.out _ _ z9 (fun hHeld => ?_)
        clear hK K
        (try simp only [Act.put, List.setIfInBounds_toArray, List.set_cons_zero, List.set_cons_succ])
        refine wpAnyH_ready (rs := [29]) (by kernel_rfl) (by simp) ?_
        refine AllReadyH.cons rfl (fun K hK => ?_) AllReadyH.nil
        go_simp
        refine (CI3.out _ z9.2.2.2.2.2.2.2.2.2.2.2.2.2.2.2.2.2.2.2.2.2.2).mono ?_
        rintro e u10 ⟨v, rfl, oo, bb⟩
        obtain ⟨I3, di3, rfl, hi3, -, -, -, -⟩ := oo.slice
        rw [hns] at hi3 ⊢
        have z10 := hSof.out _ _ z9 bb
        replace p3 := Lib.hid (p3.out.below bb)
        replace hi3 := Lib.hid hi3
        clear oo bb CI3
        go_wp2_with fail
        refine hK.out _ _ z10 (fun hHeld => ?_)
        clear hK K
        (try simp only [Act.put, List.setIfInBounds_toArray, List.set_cons_zero, List.set_cons_succ])
        refine wpAnyH_ready (rs := [31]) (by kernel_rfl) (by simp) ?_
        refine AllReadyH.cons rfl (fun K hK => ?_) AllReadyH.nil
        go_simp
        refine (CR3.out _ _ _ hi3.out).mono ?_
        rintro e u11 ⟨v, rfl, rr, bb⟩
        obtain ⟨R3, dr3, rfl, r3, -, -, -, -⟩ := rr.slice iX3.out
        rw [hnx3.out] at r3 ⊢
        have z11 := hSof.out _ _ z10 bb
        replace p3 := Lib.hid (p3.out.below bb)
        replace r3 := Lib.hid r3
        clear rr bb CR3 hi3
        go_wp2_with fail
        refine hK.out _ _ z11 (fun hHeld => ?_)
        clear hK K
        (try simp only [Act.put, List.setIfInBounds_toArray, List.set_cons_zero, List.set_cons_succ])
        refine wpAnyH_ready (rs := [32]) (by kernel_rfl) (by simp) ?_
        refine AllReadyH.cons rfl (fun K hK => ?_) AllReadyH.nil
        go_simp
        refine (Same_yes P3 R3 nx3 d3 dr3 X3 u11 (by omega) p3 r3).mono ?_
        rintro e ux ⟨rfl, dd, rfl⟩
        have z12 := hSof.out _ _ z11 (below_drewN (Below.refl u11.heap.size u11) dd)
        clear p3 r3
        obtain ⟨u12, hu12⟩ : ∃ x, u11.drewN dd = x := ⟨_, rfl⟩
        rw [hu12] at z12 ⊢
        clear hu12
        go_wp2_with fail
        refine hK.out _ _ z12 (fun hHeld => ?_)
        clear hK K
        (try simp only [Act.put, List.setIfInBounds_toArray, List.set_cons_zero, List.set_cons_succ])
        refine wpAnyH_take (i := 33) (v := .bool true) rfl (by kernel_rfl) (by kernel_rfl) (by kernel_rfl) (fun _ _ _ h => h) (Or.inl ⟨by kernel_rfl, fun W hSw => ?_⟩) (by assumption) ?_
        · (try dsimp only at hSw)
          go_simp
        (try simp only [Act.put, List.setIfInBounds_toArray, List.set_cons_zero, List.set_cons_succ])
        refine wpAnyH_take (i := 34) (v := .bool true) rfl (by kernel_rfl) (by kernel_rfl) (by kernel_rfl) (fun _ _ _ h => h) (Or.inl ⟨by kernel_rfl, fun W hSw => ?_⟩) (by assumption) ?_
        · (try dsimp only at hSw)
          go_simp
        (try simp only [Act.put, List.setIfInBounds_toArray, List.set_cons_zero, List.set_cons_succ])
        refine wpAnyH_ready (rs := [35]) (by kernel_rfl) (by simp) ?_
        refine AllReadyH.cons rfl (fun K hK => ?_) AllReadyH.nil
        go_simp
        refine (Known_any _).mono ?_
        rintro e u13 ⟨rfl, bb⟩
        have z13 := hSof.out _ _ z12 bb
        clear bb
        go_wp2_with fail
        refine hK.out _ _ z13 (fun hHeld => ?_)
        clear hK K
        (try simp only [Act.put, List.setIfInBounds_toArray, List.set_cons_zero, List.set_cons_succ])
        refine wpAnyH_take (i := 36) (v := .bool true) rfl (by kernel_rfl) (by kernel_rfl) (by kernel_rfl) (fun _ _ _ h => h) (Or.inl ⟨by kernel_rfl, fun W hSw => ?_⟩) (by assumption) ?_
        · (try dsimp only at hSw)
          go_simp
        (try simp only [Act.put, List.setIfInBounds_toArray, List.set_cons_zero, List.set_cons_succ])
        refine wpAnyH_take (i := 37) (v := .bool true) rfl (by kernel_rfl) (by kernel_rfl) (by kernel_rfl) (fun _ _ _ h => h) (Or.inl ⟨by kernel_rfl, fun W hSw => ?_⟩) (by assumption) ?_
        · (try dsimp only at hSw)
          go_simp
        (try simp only [Act.put, List.setIfInBounds_toArray, List.set_cons_zero, List.set_cons_succ])
        refine wpAnyH_done (by kernel_rfl) ?_ _
        (try simp only [List.getElem_toArray, List.getElem_cons_succ, List.getElem_cons_zero, Act.put, List.setIfInBounds_toArray, List.set_cons_zero, List.set_cons_succ])
        have BB := Lib.hid (below_up hBz.out z13.2.2.2.2.2.2.2.2.2.2.2.2.2.2.2.2.2.2.2.2.2.2)
        clear z13 hHeld
        go_wp2_with fail
        go_ret
        exact ⟨rfl, by first | exact BB.out | (rw [← epb.out]; exact BB.out)⟩
end Go.Proofs.Ytabogoonbapjiaa
