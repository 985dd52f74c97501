/-
  The walk of BookSmall.
-/
import Derived.Test.YtlknlicokacoiaaBkPlays
namespace Go.Proofs.Ytlknlicokacoiaa
open Go.RowKit
set_option linter.unusedVariables false
set_option linter.unusedSimpArgs false
set_option linter.constructorNameAsVariable false

set_option maxRecDepth 100000 in
set_option maxHeartbeats 8000000 in
theorem BSmall_walk (A : Option Addr) (n cap : Nat) (L : List Ask) (w : World) (hA : Hid (HK w A n L)) (hAt : Hid (∀ ad, A = some ad → ad.block < w.heap.size)) (hO : Hid (OkK L)) (p1 : n ≤ cap) (p2 : cap ≤ 9223372036854775807) :
    Calls Try.prog 5 #[.slice A n cap] w fun e w' => e = .returned (.bool true) ∧ Below w.heap.size w w' := by
  have HN := Lib.hid (BNew_any w)
  obtain ⟨B, eB⟩ : ∃ B, w.heap.size = B := ⟨_, rfl⟩
  unfold NewBK at HN
  rw [eB] at HN hAt ⊢
  replace eB := Lib.hid eB
  have hbr := build_rbook
  go_enter Try.func5, Try.ntmps5
  go_wp2_with fail
  refine HN.out.mono ?_
  rintro e w1 ⟨b, G, rfl, a1, b1⟩
  have hp := pair_new (w := w) a1
  have hb2 : Below w1.heap.size w1 (w1.alloc (.cells #[.slice none 0 0] 27)) := (Below.refl _ _).alloc (Nat.le_refl _) _
  obtain ⟨W2, eW2⟩ : ∃ X, w1.alloc (.cells #[.slice none 0 0] 27) = X := ⟨_, rfl⟩
  obtain ⟨d, ed⟩ : ∃ x, w1.heap.size = x := ⟨_, rfl⟩
  rw [eW2] at hp hb2
  rw [ed] at hp
  have hP0 := Lib.hid hp
  have hB0 : Hid (Below B w W2) := Lib.hid (b1.trans (hb2.mono a1.size))
  clear hp hb2 a1 b1
  go_wp2_with fail
  go_loopw [5] (fun iv wr => ∃ (i : Nat) (G : Nat → Prop) (v : Value) (L0 : List Or), iv = .int .i64 i ∧ i ≤ n ∧ i ≤ 60 ∧ Hid (PairAt B d b d G v L0 wr) ∧ Hid (Below B w wr)) (fun iv _ => (60 - intOf iv).toNat)
  case atStart => exact ⟨0, G, .slice none 0 0, [], rfl, by omega, by omega, hP0, hB0⟩
  case round =>
    clear hP0 hB0 hbr
    rename World => wo
    obtain ⟨i, G, v, L0, rfl, hi1, hi2, hP, hB⟩ := hrel
    by_cases hc : i < n ∧ i < 60
    · obtain ⟨c1, c2⟩ := hc
      have d1 : decide ((i : Int) < (n : Int)) = true := decide_eq_true (by omega)
      have d1' : decide (i < n) = true := decide_eq_true c1
      have d2 : decide ((i : Int) < 60) = true := decide_eq_true (by omega)
      have d3 : (i : Int) < (n : Int) := by omega
      obtain ⟨x, hx⟩ : ∃ x, L[i]? = some x := ⟨_, List.getElem?_eq_getElem (by rw [hA.out.1]; exact c1)⟩
      have hxo := hO.out x (List.mem_of_getElem? hx)
      have hKX := hA.out.belowB hAt.out hB.out
      obtain ⟨ob, off, rfl, e0, e1, e2, e3, e4⟩ := hKX.2 i x hx
      obtain ⟨kk, s0, ii, p0, m⟩ := x
      simp only at e0 e1 e2 e3 e4
      replace hx := Lib.hid hx
      replace hKX := Lib.hid hKX
      obtain ⟨xk, xs, xi, xp, xn⟩ := hxo
      simp only at xk xs xi xp xn
      have hk1 := withinN_le s0 1
      have HW1 := fun W : World => Within_any s0 1 W (by omega) xs.1 xs.2
      obtain ⟨k1, ek1⟩ : ∃ k, withinN s0 1 = k := ⟨_, rfl⟩
      rw [ek1] at HW1 hk1
      replace HW1 := Lib.hid HW1
      replace ek1 := Lib.hid ek1
      have hk2 := withinN_le ii 15
      have HW2 := fun W : World => Within_any ii 15 W (by omega) xi.1 xi.2
      obtain ⟨k2, ek2⟩ : ∃ k, withinN ii 15 = k := ⟨_, rfl⟩
      rw [ek2] at HW2 hk2
      replace HW2 := Lib.hid HW2
      replace ek2 := Lib.hid ek2
      have hk3 := withinN_le p0 4
      have HW3 := fun W : World => Within_any p0 4 W (by omega) xp.1 xp.2
      obtain ⟨k3, ek3⟩ : ∃ k, withinN p0 4 = k := ⟨_, rfl⟩
      rw [ek3] at HW3 hk3
      replace HW3 := Lib.hid HW3
      replace ek3 := Lib.hid ek3
      have hk4 := withinN_le m 6
      have HW4 := fun W : World => Within_any m 6 W (by omega) xn.1 xn.2
      obtain ⟨k4, ek4⟩ : ∃ k, withinN m 6 = k := ⟨_, rfl⟩
      rw [ek4] at HW4 hk4
      replace HW4 := Lib.hid HW4
      replace ek4 := Lib.hid ek4
      have hok : Hid (Ask.Ok ⟨kk, 1 + (k1 : Int), (k2 : Int), (k3 : Int), 1 + (k4 : Int)⟩) := Lib.hid ⟨xk, ⟨by simp only; omega, by simp only; omega⟩, ⟨by simp only; omega, by simp only; omega⟩, ⟨by simp only; omega, by simp only; omega⟩, ⟨by simp only; omega, by simp only; omega⟩⟩
      clear xk xs xi xp xn
      obtain ⟨xb, exb⟩ : ∃ g, wo.heap.size = g := ⟨_, rfl⟩
      obtain ⟨W0, eW0⟩ : ∃ X, wo.alloc (.cells #[.int .i64 kk, .int .i64 s0, .int .i64 ii, .int .i64 p0, .int .i64 m] 29) = X := ⟨_, rfl⟩
      have D0 : Hid (Below wo.heap.size wo W0) := Lib.hid (by rw [← eW0]; exact (Below.refl _ _).alloc (Nat.le_refl _) _)
      have h0 : Hid (W0.heap[xb]? = some (.cells #[.int .i64 kk, .int .i64 s0, .int .i64 ii, .int .i64 p0, .int .i64 m] 29 (0, 0))) := Lib.hid (by rw [← eW0, ← exb]; exact heap_alloc_new wo _)
      have hxb : Hid (wo.heap.size ≤ xb) := Lib.hid (by omega)
      obtain ⟨W1, eW1⟩ : ∃ X, W0.setCell ⟨xb, 1, none⟩ (.int .i64 (1 + (k1 : Int))) = X := ⟨_, rfl⟩
      have D1 : Hid (Below wo.heap.size wo W1) := Lib.hid (by rw [← eW1]; exact D0.out.setCell (p := ⟨xb, 1, none⟩) hxb.out _)
      have h1 : Hid (W1.heap[xb]? = some (.cells #[.int .i64 kk, .int .i64 (1 + (k1 : Int)), .int .i64 ii, .int .i64 p0, .int .i64 m] 29 (0, 0))) := Lib.hid (by rw [← eW1]; exact heap_setCell_same W0 _ 1 _ _ _ h0.out)
      obtain ⟨W2, eW2⟩ : ∃ X, W1.setCell ⟨xb, 2, none⟩ (.int .i64 (k2 : Int)) = X := ⟨_, rfl⟩
      have D2 : Hid (Below wo.heap.size wo W2) := Lib.hid (by rw [← eW2]; exact D1.out.setCell (p := ⟨xb, 2, none⟩) hxb.out _)
      have h2 : Hid (W2.heap[xb]? = some (.cells #[.int .i64 kk, .int .i64 (1 + (k1 : Int)), .int .i64 (k2 : Int), .int .i64 p0, .int .i64 m] 29 (0, 0))) := Lib.hid (by rw [← eW2]; exact heap_setCell_same W1 _ 2 _ _ _ h1.out)
      obtain ⟨W3, eW3⟩ : ∃ X, W2.setCell ⟨xb, 3, none⟩ (.int .i64 (k3 : Int)) = X := ⟨_, rfl⟩
      have D3 : Hid (Below wo.heap.size wo W3) := Lib.hid (by rw [← eW3]; exact D2.out.setCell (p := ⟨xb, 3, none⟩) hxb.out _)
      have h3 : Hid (W3.heap[xb]? = some (.cells #[.int .i64 kk, .int .i64 (1 + (k1 : Int)), .int .i64 (k2 : Int), .int .i64 (k3 : Int), .int .i64 m] 29 (0, 0))) := Lib.hid (by rw [← eW3]; exact heap_setCell_same W2 _ 3 _ _ _ h2.out)
      obtain ⟨W4, eW4⟩ : ∃ X, W3.setCell ⟨xb, 4, none⟩ (.int .i64 (1 + (k4 : Int))) = X := ⟨_, rfl⟩
      have D4 : Hid (Below wo.heap.size wo W4) := Lib.hid (by rw [← eW4]; exact D3.out.setCell (p := ⟨xb, 4, none⟩) hxb.out _)
      have h4 : Hid (W4.heap[xb]? = some (.cells #[.int .i64 kk, .int .i64 (1 + (k1 : Int)), .int .i64 (k2 : Int), .int .i64 (k3 : Int), .int .i64 (1 + (k4 : Int))] 29 (0, 0))) := Lib.hid (by rw [← eW4]; exact heap_setCell_same W3 _ 4 _ _ _ h3.out)
      have hP4 := Lib.hid (hP.out.below D4.out)
      have hB4 := Lib.hid (hB.out.trans (D4.out.mono hP.out.k.size))
      have r1 : W0.cell? ⟨xb, 1, none⟩ = some (.int .i64 s0) := by rw [Lib.cell_of_heap h0.out]; rfl
      have z1 := Lib.frozen_of_heap h0.out 1
      clear D0
      go_wp2_with fail
      clear e0 e1 e2 e3 e4
      refine (HW1.out W0).mono ?_
      rintro e wq ⟨rfl, ew⟩
      obtain rfl := ew.symm
      clear HW1
      have r2 : W1.cell? ⟨xb, 2, none⟩ = some (.int .i64 ii) := by rw [Lib.cell_of_heap h1.out]; rfl
      have z2 := Lib.frozen_of_heap h1.out 2
      go_wp2_with fail
      refine (HW2.out W1).mono ?_
      rintro e wq ⟨rfl, ew⟩
      obtain rfl := ew.symm
      clear HW2
      have r3 : W2.cell? ⟨xb, 3, none⟩ = some (.int .i64 p0) := by rw [Lib.cell_of_heap h2.out]; rfl
      have z3 := Lib.frozen_of_heap h2.out 3
      go_wp2_with fail
      refine (HW3.out W2).mono ?_
      rintro e wq ⟨rfl, ew⟩
      obtain rfl := ew.symm
      clear HW3
      have r4 : W3.cell? ⟨xb, 4, none⟩ = some (.int .i64 m) := by rw [Lib.cell_of_heap h3.out]; rfl
      have z4 := Lib.frozen_of_heap h3.out 4
      go_wp2_with fail
      refine (HW4.out W3).mono ?_
      rintro e wq ⟨rfl, ew⟩
      obtain rfl := ew.symm
      clear HW4
      obtain ⟨⟨q0, q1, q2, q3, q4⟩, -⟩ := row5 h4.out
      have HD := LDo_any B d b d G v L0 ⟨kk, 1 + (k1 : Int), (k2 : Int), (k3 : Int), 1 + (k4 : Int)⟩ W4 hP4 (Lib.hid hok.out)
      obtain ⟨LN, eLN⟩ : ∃ l, doO L0 ⟨kk, 1 + (k1 : Int), (k2 : Int), (k3 : Int), 1 + (k4 : Int)⟩ = l := ⟨_, rfl⟩
      rw [eLN] at HD
      simp only [Ask.val] at HD
      replace HD := Lib.hid HD
      replace eLN := Lib.hid eLN
      go_wp2_with fail
      refine HD.out.mono ?_
      rintro e w5 ⟨G5, v5, rfl, P5, o5, -, -⟩
      have HL := Lib.hid (LAlike_any B d b d G5 v5 LN w5 (Lib.hid P5))
      have hB5 := Lib.hid (hB4.out.trans (hP4.out.did o5))
      replace P5 := Lib.hid P5
      clear HD o5
      go_wp2_with fail
      refine HL.out.mono ?_
      rintro e w6 ⟨rfl, b6⟩
      have P6 := Lib.hid (P5.out.below b6)
      have hB6 := Lib.hid (hB5.out.trans (b6.mono P5.out.k.size))
      clear HL b6
      go_wp2_with fail
      go_roundw
      case rel => exact ⟨i + 1, G5, v5, LN, by go_num, by omega, by omega, P6, hB6⟩
      case measure => simp [intOf]; omega
    · have hKn := Lib.hid (BKnown_any wo)
      have hKs := hP.out.k.size
      by_cases hin : i < n
      · have d1 : decide ((i : Int) < (n : Int)) = true := decide_eq_true (by omega)
        have d1' : decide (i < n) = true := decide_eq_true hin
        have d2 : decide ((i : Int) < 60) = false := decide_eq_false (by omega)
        go_wp2_with fail
        refine hKn.out.mono ?_
        rintro e w9 ⟨rfl, b9⟩
        replace b9 := Lib.hid b9
        go_wp2_with fail
        go_ret
        exact ⟨rfl, hB.out.trans (b9.out.mono hKs)⟩
      · have d1 : decide ((i : Int) < (n : Int)) = false := decide_eq_false (by omega)
        have d1' : decide (i < n) = false := decide_eq_false hin
        go_wp2_with fail
        refine hKn.out.mono ?_
        rintro e w9 ⟨rfl, b9⟩
        replace b9 := Lib.hid b9
        go_wp2_with fail
        go_ret
        exact ⟨rfl, hB.out.trans (b9.out.mono hKs)⟩
end Go.Proofs.Ytlknlicokacoiaa
