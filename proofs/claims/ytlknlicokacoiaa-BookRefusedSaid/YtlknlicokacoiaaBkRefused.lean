/-
  The walk of BookRefused.
-/
import Derived.Test.YtlknlicokacoiaaBkKnown
import Derived.Test.YtlknlicokacoiaaOpenAsk9
namespace Go.Proofs.Ytlknlicokacoiaa
open Go.RowKit
set_option linter.unusedVariables false
set_option linter.unusedSimpArgs false
set_option linter.constructorNameAsVariable false

theorem addO_same (L : List Or) (i s p n : Int) : (addO L i s p n).1 ≠ 0 → (addO L i s p n).2 = L := by
  unfold addO
  split
  · exact fun _ => rfl
  · split
    · exact fun _ => rfl
    · split
      · exact fun _ => rfl
      · split
        · exact fun _ => rfl
        · intro h; exact absurd rfl h
theorem fillO_same (L : List Or) (i n : Int) : (fillO L i n).1 ≠ 0 → (fillO L i n).2 = L := by
  unfold fillO
  split
  · exact fun _ => rfl
  · split
    · exact fun _ => rfl
    · split
      · intro h; exact absurd rfl h
      · intro h; exact absurd rfl h
theorem i64_tmod {x : Int} (h : I64 x) : I64 (x.tmod 20) := by
  obtain ⟨h1, h2⟩ := h
  have := Int.tmod_lt_of_pos x (show (0 : Int) < 20 by omega)
  have := Int.lt_tmod_of_pos x (show (0 : Int) < 20 by omega)
  exact ⟨by omega, by omega⟩
set_option maxRecDepth 100000 in
set_option maxHeartbeats 8000000 in
theorem BRefused_walk (A : Option Addr) (n cap : Nat) (L : List Ask) (w : World) (hA : Hid (HK w A n L)) (hAt : Hid (∀ ad, A = some ad → ad.block < w.heap.size)) (hO : Hid (OkK L)) (p1 : n ≤ cap) (p2 : cap ≤ 9223372036854775807) :
    Calls Try.prog 9 #[.slice A n cap] w fun e w' => e = .returned (.bool true) ∧ Below w.heap.size w w' := by
  have HN := Lib.hid (BNew_any w)
  obtain ⟨B, eB⟩ : ∃ B, w.heap.size = B := ⟨_, rfl⟩
  unfold NewBK at HN
  rw [eB] at HN hAt ⊢
  replace eB := Lib.hid eB
  go_enter Try.func9, Try.ntmps9
  go_wp2_with fail
  refine HN.out.mono ?_
  rintro e w1 ⟨b, G, rfl, a1, b1⟩
  replace a1 := Lib.hid a1
  replace b1 := Lib.hid b1
  go_wp2_with fail
  go_loopw [4] (fun iv wr => ∃ (i : Nat) (G : Nat → Prop) (L0 : List Or), iv = .int .i64 i ∧ i ≤ n ∧ i ≤ 50 ∧ Hid (BK B b G L0 wr) ∧ Hid (Below B w wr)) (fun iv _ => (50 - intOf iv).toNat)
  case atStart => exact ⟨0, G, [], rfl, by omega, by omega, a1, b1⟩
  case round =>
    clear a1 b1
    rename World => wo
    obtain ⟨i, G, L0, rfl, hi1, hi2, hK, hB⟩ := hrel
    by_cases hc : i < n ∧ i < 50
    · obtain ⟨c1, c2⟩ := hc
      have d1 : decide ((i : Int) < (n : Int)) = true := decide_eq_true (by omega)
      have d1' : decide (i < n) = true := decide_eq_true c1
      have d2 : decide ((i : Int) < 50) = true := decide_eq_true (by omega)
      have d3 : (i : Int) < (n : Int) := by omega
      obtain ⟨x, hx⟩ : ∃ x, L[i]? = some x := ⟨_, List.getElem?_eq_getElem (by rw [hA.out.1]; exact c1)⟩
      obtain ⟨xk, xs, xi, xp, xn⟩ := hO.out x (List.mem_of_getElem? hx)
      have hKX := hA.out.belowB hAt.out hB.out
      obtain ⟨ob, off, rfl, e0, e1, e2, e3, e4⟩ := hKX.2 i x hx
      obtain ⟨kk, s, ii, p, m⟩ := x
      simp only at xk xs xi xp xn e0 e1 e2 e3 e4
      have xi2 := Lib.hid (i64_tmod xi)
      replace xp := Lib.hid xp
      replace hx := Lib.hid hx
      replace hKX := Lib.hid hKX
      obtain ⟨W0, eW0⟩ : ∃ X, wo.alloc (.cells #[.int .i64 kk, .int .i64 s, .int .i64 ii, .int .i64 p, .int .i64 m] 29) = X := ⟨_, rfl⟩
      have D0 : Below wo.heap.size wo W0 := by rw [← eW0]; exact (Below.refl _ _).alloc (Nat.le_refl _) _
      have h0 : W0.heap[wo.heap.size]? = some (.cells #[.int .i64 kk, .int .i64 s, .int .i64 ii, .int .i64 p, .int .i64 m] 29 (0, 0)) := by rw [← eW0]; exact heap_alloc_new wo _
      obtain ⟨xb, exb⟩ : ∃ g, wo.heap.size = g := ⟨_, rfl⟩
      have q2 : W0.cell? ⟨wo.heap.size, 2, none⟩ = some (.int .i64 ii) := by rw [Lib.cell_of_heap h0]; rfl
      have z2 := Lib.frozen_of_heap h0 2
      obtain ⟨W1, eW1⟩ : ∃ X, W0.setCell ⟨wo.heap.size, 2, none⟩ (.int .i64 (ii.tmod 20)) = X := ⟨_, rfl⟩
      have D1 : Below wo.heap.size wo W1 := by rw [← eW1]; exact D0.setCell (p := ⟨wo.heap.size, 2, none⟩) (Nat.le_refl _) _
      have h1 : W1.heap[wo.heap.size]? = some (.cells #[.int .i64 kk, .int .i64 s, .int .i64 (ii.tmod 20), .int .i64 p, .int .i64 m] 29 (0, 0)) := by rw [← eW1]; exact heap_setCell_same W0 _ 2 _ _ _ h0
      have hK1 := Lib.hid (hK.out.below D1)
      have B1 := Lib.hid (hB.out.trans (D1.mono hK.out.size))
      have HO1 := Lib.hid (BOrders_any B b G L0 W1 hK1)
      have hxb : Hid (∀ k, G k → k ≠ wo.heap.size) := Lib.hid (fun k hk => by have := (hK.out.lt hk).2; omega)
      have hs1 : Hid (wo.heap.size < W1.heap.size) := Lib.hid (Array.getElem?_eq_some_iff.1 h1).1
      replace h0 := Lib.hid h0
      replace h1 := Lib.hid h1
      replace D1 := Lib.hid D1
      replace D0 := Lib.hid D0
      clear hK hB exb
      go_upto_region 9 with (fail)
      (try rw [eW1])
      go_wp2_with fail
      refine HO1.out.mono ?_
      rintro e w2 ⟨v6, rfl, O2, b2⟩
      have hK2 := Lib.hid (hK1.out.below b2)
      have B2 := Lib.hid (B1.out.trans (b2.mono hK1.out.size))
      have hg6 : Hid (∀ k, v6.ownBlock = some k → ¬ G k) := Lib.hid (fun k hk e => by have := (O2.lt k hk).1; have := (hK1.out.lt e).2; omega)
      have h2 : w2.heap[wo.heap.size]? = some (.cells #[.int .i64 kk, .int .i64 s, .int .i64 (ii.tmod 20), .int .i64 p, .int .i64 m] 29 (0, 0)) := (b2.block _ hs1.out).trans h1.out
      obtain ⟨r0, r1, r2, r3, r4⟩ := (row5 h2).1
      obtain ⟨A6, cap6, rfl, hv6, y1, y2, y3, y4⟩ := O2.slice
      obtain ⟨n6, en6⟩ : ∃ x, L0.length = x := ⟨_, rfl⟩
      have hl6 : n6 ≤ 250 := by rw [← en6]; exact hK2.out.lok.room
      rw [en6] at y1 hv6 hg6 O2 ⊢
      replace O2 := Lib.hid O2
      replace hv6 := Lib.hid hv6
      replace y3 := Lib.hid y3
      replace y4 := Lib.hid y4
      replace h2 := Lib.hid h2
      replace en6 := Lib.hid en6
      clear HO1 hK1 B1 b2 e0 e1 e2 e3 e4 q2 z2
      by_cases hk : kk = 1
      · subst hk
        have HP := BAdd_any B b G L0 (ii.tmod 20) s p m w2 hK2 xi2 xp
        have hs1' := addO_same L0 (ii.tmod 20) s p m
        obtain ⟨⟨f, L1⟩, ep⟩ : ∃ q, addO L0 (ii.tmod 20) s p m = q := ⟨_, rfl⟩
        rw [ep] at HP hs1'
        simp only at hs1'
        replace HP := Lib.hid HP
        replace ep := Lib.hid ep
        go_wp2_with fail
        refine HP.out.mono ?_
        rintro e w3 ⟨G3, rfl, hK3', o3, n3⟩
        have hK3 := Lib.hid hK3'
        have B3 := Lib.hid (B2.out.trans (hK2.out.mine o3))
        have hv3 := Lib.hid (hv6.out.only o3 (fun kb koff e => hg6.out kb (by rw [e]; rfl)))
        have HO3 := Lib.hid (BOrders_any B b G3 L1 w3 hK3)
        clear HP o3 n3 hK3' r0 r1 r2 r3 r4
        simp only
        go_wp2_with fail
        refine HO3.out.mono ?_
        rintro e w4 ⟨v8, rfl, O4, b4⟩
        have hK4 := Lib.hid (hK3.out.below b4)
        have B4 := Lib.hid (B3.out.trans (b4.mono hK3.out.size))
        have hv4 := Lib.hid (hv3.out.below b4)
        obtain ⟨A8, cap8, rfl, hv8, u1, u2, u3, u4⟩ := O4.slice
        have HC := Lib.hid (BkCount_any B b G3 L1 w4 hK4)
        obtain ⟨n8, en8⟩ : ∃ x, L1.length = x := ⟨_, rfl⟩
        have hl8 : n8 ≤ 250 := by rw [← en8]; exact hK4.out.lok.room
        rw [en8] at u1 hv8 HC ⊢
        replace O4 := Lib.hid O4
        replace hv8 := Lib.hid hv8
        replace u4 := Lib.hid u4
        replace u3 := Lib.hid u3
        replace en8 := Lib.hid en8
        clear HO3 hv3 B3 b4
        have dn : ((n8 : Int) != (n8 : Int)) = false := by simp
        by_cases hf : f = 0
        · subst hf
          go_wp2_with fail
          refine HC.out.mono ?_
          rintro e w5 ⟨rfl, rfl⟩
          go_wp2_with fail
          go_roundw
          case rel => exact ⟨i + 1, G3, L1, by go_num, by omega, by omega, hK4, B4⟩
          case measure => simp [intOf]; omega
        · have df : (f != 0) = true := by simpa using hf
          have e8 : L1 = L0 := hs1' hf
          have e86 : n8 = n6 := by rw [← en8.out, ← en6.out, e8]
          subst e86
          have hvs : Hid (HV fO w4 A6 n8 L1) := Lib.hid (by rw [e8]; exact hv4.out)
          have HS := Lib.hid (BSame_yes A6 A8 n8 cap6 cap8 L1 w4 (by omega) y1 u1 hvs hv8)
          replace e8 := Lib.hid e8
          go_wp2_with fail
          refine HS.out.mono ?_
          rintro e w5 ⟨rfl, q, rfl⟩
          have hK5 : Hid (BK B b G3 L1 (w4.drewN q)) := Lib.hid (hK4.out.below ⟨rfl, rfl, rfl, Nat.le_refl _, fun _ _ => rfl⟩)
          have B5 : Hid (Below B w (w4.drewN q)) := Lib.hid ⟨B4.out.os, B4.out.tape, B4.out.output, B4.out.size, B4.out.block⟩
          have HC5 := BkCount_any B b G3 L1 (w4.drewN q) hK5
          rw [en8.out] at HC5
          replace HC5 := Lib.hid HC5
          go_wp2_with fail
          refine HC5.out.mono ?_
          rintro e w6 ⟨rfl, rfl⟩
          go_wp2_with fail
          go_roundw
          case rel => exact ⟨i + 1, G3, L1, by go_num, by omega, by omega, hK5, B5⟩
          case measure => simp [intOf]; omega
      · have dk : (kk == 1) = false := by simpa using hk
        have HP := BFill_any B b G L0 (ii.tmod 20) m w2 hK2 xn
        have hs1' := fillO_same L0 (ii.tmod 20) m
        obtain ⟨⟨f, L1⟩, ep⟩ : ∃ q, fillO L0 (ii.tmod 20) m = q := ⟨_, rfl⟩
        rw [ep] at HP hs1'
        simp only at hs1'
        replace HP := Lib.hid HP
        replace ep := Lib.hid ep
        go_wp2_with fail
        refine HP.out.mono ?_
        rintro e w3 ⟨G3, rfl, hK3', o3, n3⟩
        have hK3 := Lib.hid hK3'
        have B3 := Lib.hid (B2.out.trans (hK2.out.mine o3))
        have hv3 := Lib.hid (hv6.out.only o3 (fun kb koff e => hg6.out kb (by rw [e]; rfl)))
        have HO3 := Lib.hid (BOrders_any B b G3 L1 w3 hK3)
        clear HP o3 n3 hK3' r0 r1 r2 r3 r4
        simp only
        go_wp2_with fail
        refine HO3.out.mono ?_
        rintro e w4 ⟨v8, rfl, O4, b4⟩
        have hK4 := Lib.hid (hK3.out.below b4)
        have B4 := Lib.hid (B3.out.trans (b4.mono hK3.out.size))
        have hv4 := Lib.hid (hv3.out.below b4)
        obtain ⟨A8, cap8, rfl, hv8, u1, u2, u3, u4⟩ := O4.slice
        have HC := Lib.hid (BkCount_any B b G3 L1 w4 hK4)
        obtain ⟨n8, en8⟩ : ∃ x, L1.length = x := ⟨_, rfl⟩
        have hl8 : n8 ≤ 250 := by rw [← en8]; exact hK4.out.lok.room
        rw [en8] at u1 hv8 HC ⊢
        replace O4 := Lib.hid O4
        replace hv8 := Lib.hid hv8
        replace u4 := Lib.hid u4
        replace u3 := Lib.hid u3
        replace en8 := Lib.hid en8
        clear HO3 hv3 B3 b4
        have dn : ((n8 : Int) != (n8 : Int)) = false := by simp
        by_cases hf : f = 0
        · subst hf
          go_wp2_with fail
          refine HC.out.mono ?_
          rintro e w5 ⟨rfl, rfl⟩
          go_wp2_with fail
          go_roundw
          case rel => exact ⟨i + 1, G3, L1, by go_num, by omega, by omega, hK4, B4⟩
          case measure => simp [intOf]; omega
        · have df : (f != 0) = true := by simpa using hf
          have e8 : L1 = L0 := hs1' hf
          have e86 : n8 = n6 := by rw [← en8.out, ← en6.out, e8]
          subst e86
          have hvs : Hid (HV fO w4 A6 n8 L1) := Lib.hid (by rw [e8]; exact hv4.out)
          have HS := Lib.hid (BSame_yes A6 A8 n8 cap6 cap8 L1 w4 (by omega) y1 u1 hvs hv8)
          replace e8 := Lib.hid e8
          go_wp2_with fail
          refine HS.out.mono ?_
          rintro e w5 ⟨rfl, q, rfl⟩
          have hK5 : Hid (BK B b G3 L1 (w4.drewN q)) := Lib.hid (hK4.out.below ⟨rfl, rfl, rfl, Nat.le_refl _, fun _ _ => rfl⟩)
          have B5 : Hid (Below B w (w4.drewN q)) := Lib.hid ⟨B4.out.os, B4.out.tape, B4.out.output, B4.out.size, B4.out.block⟩
          have HC5 := BkCount_any B b G3 L1 (w4.drewN q) hK5
          rw [en8.out] at HC5
          replace HC5 := Lib.hid HC5
          go_wp2_with fail
          refine HC5.out.mono ?_
          rintro e w6 ⟨rfl, rfl⟩
          go_wp2_with fail
          go_roundw
          case rel => exact ⟨i + 1, G3, L1, by go_num, by omega, by omega, hK5, B5⟩
          case measure => simp [intOf]; omega
    · have hd : (decide ((i : Int) < (n : Int)) && decide ((i : Int) < 50)) = false := by
        rcases (show ¬ i < n ∨ ¬ i < 50 by omega) with h | h
        · simp; intro h2; omega
        · simp; intro h2; omega
      have HKn := Lib.hid (BKnown_any wo)
      have hKs := hK.out.size
      by_cases hin : i < n
      · have d1 : decide ((i : Int) < (n : Int)) = true := decide_eq_true (by omega)
        have d1' : decide (i < n) = true := decide_eq_true hin
        have d2 : decide ((i : Int) < 50) = false := decide_eq_false (by omega)
        go_wp2_with fail
        refine HKn.out.mono ?_
        rintro e w9 ⟨rfl, b9⟩
        replace b9 := Lib.hid b9
        go_wp2_with fail
        go_ret
        exact ⟨rfl, hB.out.trans (b9.out.mono hKs)⟩
      · have d1 : decide ((i : Int) < (n : Int)) = false := decide_eq_false (by omega)
        have d1' : decide (i < n) = false := decide_eq_false hin
        go_wp2_with fail
        refine HKn.out.mono ?_
        rintro e w9 ⟨rfl, b9⟩
        replace b9 := Lib.hid b9
        go_wp2_with fail
        go_ret
        exact ⟨rfl, hB.out.trans (b9.out.mono hKs)⟩
end Go.Proofs.Ytlknlicokacoiaa
