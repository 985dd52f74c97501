/-
  Contract: law 15's known: some runs of the chapter.
-/
import Derived.Test.YtpfgmebajefjaaaLePrices
import Derived.Test.YtpfgmebajefjaaaKeepThree
namespace Go.Proofs.Ytpfgmebajefjaaa
open Go.RowKit
set_option linter.unusedVariables false
set_option linter.unusedSimpArgs false

/-- The product of chapter 15's runs. -/
def P50 (A1 A2 : Option Addr) : PD := ⟨[67, 76], A1, 3, 3, 5, 0, 100, 100, 1, 4, 2, 40, A2, 3, 3, Q3, fun _ => 50⟩
theorem P50_chk (A1 A2 : Option Addr) : chk (P50 A1 A2) = 0 := by rfl
theorem P50_cnt (A1 A2 : Option Addr) : cntL (P50 A1 A2) = 6 := by unfold cntL; rw [if_pos (P50_chk A1 A2)]; show 3 + 3 * (3 - 1) / 2 = 6; decide
theorem P50_legs (A1 A2 : Option Addr) : legsL (P50 A1 A2) 3 = (0, 1, true) := by rw [show (3 : Int) = ((3 : Nat) : Int) from rfl, legs_is (P50_chk A1 A2)]; rfl
theorem P50_legs0 (A1 A2 : Option Addr) : legsL (P50 A1 A2) 0 = (0, 0, false) := by rw [show (0 : Int) = ((0 : Nat) : Int) from rfl, legs_is (P50_chk A1 A2)]; rfl
theorem P50_far (A1 A2 : Option Addr) : farL (P50 A1 A2) 3 = 50 := by unfold farL; rfl
theorem P50_three (A1 A2 : Option Addr) : pricesL (P50 A1 A2) 3 60 = (100, 40, 0) := by
  have e : priceL (P50 A1 A2) 3 60 = 0 := by
    unfold priceL
    rw [if_neg (by simp [P50_chk]), if_neg (by rw [P50_cnt]; omega), P50_legs]
    rfl
  unfold pricesL
  rw [if_neg (by simp [P50_chk]), if_neg (by rw [P50_legs]; decide), if_neg (by simp [e]), P50_far]
  rfl
theorem P50_month (A1 A2 : Option Addr) : pricesL (P50 A1 A2) 0 5 = (0, 0, 20) := by
  unfold pricesL
  rw [if_neg (by simp [P50_chk]), if_pos (by rw [P50_legs0])]
theorem P50_ok {a1 g5 : Nat} {w : World} (h1 : Nums w (some ⟨a1, 0, none⟩) 3 Q3) (h2 : Nums w (some ⟨g5, 0, none⟩) 3 (fun _ => 50)) : (P50 (some ⟨a1, 0, none⟩) (some ⟨g5, 0, none⟩)).Ok w :=
  ⟨h1, h2, by show [67, 76].length ≤ _; simp, Nat.le_refl _, by show 3 ≤ _; omega, Nat.le_refl _, by show 3 ≤ _; omega, ⟨by show _ ≤ (5 : Int); omega, by show (5 : Int) ≤ _; omega⟩, ⟨by show _ ≤ (0 : Int); omega, by show (0 : Int) ≤ _; omega⟩, ⟨by show _ ≤ (100 : Int); omega, by show (100 : Int) ≤ _; omega⟩, ⟨by show _ ≤ (100 : Int); omega, by show (100 : Int) ≤ _; omega⟩, ⟨by show _ ≤ (1 : Int); omega, by show (1 : Int) ≤ _; omega⟩, ⟨by show _ ≤ (4 : Int); omega, by show (4 : Int) ≤ _; omega⟩, ⟨by show _ ≤ (2 : Int); omega, by show (2 : Int) ≤ _; omega⟩, ⟨by show _ ≤ (40 : Int); omega, by show (40 : Int) ≤ _; omega⟩⟩
theorem fifty {w : World} {g : Nat} {t : TypeId} (h : w.heap[g]? = some (.cells #[.int .i64 50, .int .i64 50, .int .i64 50] t (0, 0))) : Nums w (some ⟨g, 0, none⟩) 3 (fun _ => 50) := by
  intro j hj
  refine ⟨g, 0, rfl, ?_, ⟨by show (_ : Int) ≤ 50; omega, by show (50 : Int) ≤ _; omega⟩⟩
  rw [cell_of_row w g _ _ t _ h]
  rcases j with _ | _ | _ | j
  · rfl
  · rfl
  · rfl
  · omega
set_option maxRecDepth 100000 in
set_option maxHeartbeats 1600000 in
theorem Known_any (w : World) :
    Calls Try.prog 10 #[] w fun e w' => e = .returned (.bool true) ∧ Below w.heap.size w w' := by
  have H3 : Calls Try.prog 7 #[.int .i64 1] w fun e w' => ∃ a1 a2 : Nat, e = .returned (.agg #[.string (str [67, 76]), .slice (some ⟨a1, 0, none⟩) 3 3, .int .i64 5, .int .i64 0, .int .i64 1000, .int .i64 200, .int .i64 1, .int .i64 4, .int .i64 2, .int .i64 40, .slice (some ⟨a2, 0, none⟩) 3 3]) ∧ Nums w' (some ⟨a1, 0, none⟩) 3 Q3 ∧ Below w.heap.size w w' := (Three_any 1 (by omega) w).mono fun e w' ⟨a1, a2, he, h1, h2, hb⟩ => ⟨a1, a2, he, h1, hb⟩
  go_enter Try.func10, Try.ntmps10
  go_wp2_with fail
  refine H3.mono ?_
  clear H3
  rintro e w1 ⟨a1, a2, rfl, hq1, b1⟩
  obtain ⟨q, eq⟩ : ∃ q, w1.heap.size = q := ⟨_, rfl⟩
  go_upto_region 2 with (fail)
  obtain ⟨W2, eW2⟩ : ∃ W, w1.alloc (.cells #[.string (str [67, 76]), .slice (some ⟨a1, 0, none⟩) 3 3, .int .i64 5, .int .i64 0, .int .i64 1000, .int .i64 200, .int .i64 1, .int .i64 4, .int .i64 2, .int .i64 40, .slice (some ⟨a2, 0, none⟩) 3 3] 25) = W := ⟨_, rfl⟩
  have hB2 : Below w1.heap.size w1 W2 := by rw [← eW2]; exact (Below.refl _ w1).alloc (Nat.le_refl _) _
  have hblk2 : W2.heap[q]? = some (.cells #[.string (str [67, 76]), .slice (some ⟨a1, 0, none⟩) 3 3, .int .i64 5, .int .i64 0, .int .i64 1000, .int .i64 200, .int .i64 1, .int .i64 4, .int .i64 2, .int .i64 40, .slice (some ⟨a2, 0, none⟩) 3 3] 25 (0, 0)) := by rw [← eW2, ← eq]; exact heap_alloc_new w1 _
  rw [eW2]
  clear eW2
  obtain ⟨k0, k1, k2, k3, k4, k5, k6, k7, k8, k9, k10⟩ := row11 hblk2
  have z10 := frozen_of_row W2 q 10 _ _ hblk2
  have z4 := frozen_of_row W2 q 4 _ _ hblk2
  have z5 := frozen_of_row W2 q 5 _ _ hblk2
  have hsz : q < W2.heap.size := (Array.getElem?_eq_some_iff.1 hblk2).1
  go_upto_region 5 with (fail)
  obtain ⟨g5, eg5⟩ : ∃ g, W2.heap.size = g := ⟨_, rfl⟩
  obtain ⟨W5, eW5⟩ : ∃ W, ((((W2.setCell { block := q, off := 10 } (Value.slice (some { block := W2.heap.size, off := 0 }) 3 3)).setCell { block := q, off := 4 } (Value.int IntKind.i64 100)).setCell { block := q, off := 5 } (Value.int IntKind.i64 100)).alloc (Obj.cells #[Value.int IntKind.i64 50, Value.int IntKind.i64 50, Value.int IntKind.i64 50] 2)) = W := ⟨_, rfl⟩
  rw [eW5]
  rw [eg5]
  have hs5 : (((W2.setCell { block := q, off := 10 } (Value.slice (some { block := W2.heap.size, off := 0 }) 3 3)).setCell { block := q, off := 4 } (Value.int IntKind.i64 100)).setCell { block := q, off := 5 } (Value.int IntKind.i64 100)).heap.size = g5 := by rw [← eg5]; simp [World.setCell]
  have hblk5 : W5.heap[q]? = some (.cells #[.string (str [67, 76]), .slice (some ⟨a1, 0, none⟩) 3 3, .int .i64 5, .int .i64 0, .int .i64 100, .int .i64 100, .int .i64 1, .int .i64 4, .int .i64 2, .int .i64 40, .slice (some ⟨g5, 0, none⟩) 3 3] 25 (0, 0)) := by
    rw [← eW5]
    refine (heap_alloc_old _ _ (by rw [hs5]; omega)).trans ?_
    rw [eg5]
    exact heap_setCell_same _ q 5 _ _ _ (heap_setCell_same _ q 4 _ _ _ (heap_setCell_same _ q 10 _ _ _ hblk2))
  have hn5 : W5.heap[g5]? = some (.cells #[.int .i64 50, .int .i64 50, .int .i64 50] 2 (0, 0)) := by
    rw [← eW5, ← hs5]
    exact heap_alloc_new _ _
  have hB5 : Below w1.heap.size w1 W5 := by
    rw [← eW5]
    have hq : w1.heap.size ≤ q := by omega
    have b5 := ((hB2.setCell (p := ⟨q, 10, none⟩) hq (Value.slice (some { block := W2.heap.size, off := 0 }) 3 3)).setCell (p := ⟨q, 4, none⟩) hq (Value.int IntKind.i64 100)).setCell (p := ⟨q, 5, none⟩) hq (Value.int IntKind.i64 100)
    exact b5.alloc b5.size _
  have hok5 : Hid ((P50 (some ⟨a1, 0, none⟩) (some ⟨g5, 0, none⟩)).Ok W5) := Lib.hid (P50_ok (hq1.below hB5) (fifty hn5))
  have BW5 : Hid (Below w.heap.size w W5) := Lib.hid (b1.trans (hB5.mono b1.size))
  have hbW5 := Lib.hid hblk5
  have HP : Hid (∀ (inst x : Int), I64 inst → I64 x → ∀ W, Below W5.heap.size W5 W → Calls Try.prog 9 #[.agg #[.string (str [67, 76]), .slice (some ⟨a1, 0, none⟩) 3 3, .int .i64 5, .int .i64 0, .int .i64 100, .int .i64 100, .int .i64 1, .int .i64 4, .int .i64 2, .int .i64 40, .slice (some ⟨g5, 0, none⟩) 3 3], .int .i64 inst, .int .i64 x] W fun e w' => e = .returned (.tuple #[.int .i64 (pricesL (P50 (some ⟨a1, 0, none⟩) (some ⟨g5, 0, none⟩)) inst x).1, .int .i64 (pricesL (P50 (some ⟨a1, 0, none⟩) (some ⟨g5, 0, none⟩)) inst x).2.1, .int .i64 ((pricesL (P50 (some ⟨a1, 0, none⟩) (some ⟨g5, 0, none⟩)) inst x).2.2 : Nat)]) ∧ Below W.heap.size W w') := Lib.hid (fun inst x hi hx W b => PPrices_any (P50 (some ⟨a1, 0, none⟩) (some ⟨g5, 0, none⟩)) inst x W (Lib.hid (hok5.out.below b)) hi hx)
  have e1 := HP.out 3 60 ⟨by omega, by omega⟩ ⟨by omega, by omega⟩
  have e2 := HP.out 0 5 ⟨by omega, by omega⟩ ⟨by omega, by omega⟩
  rw [P50_three] at e1
  rw [P50_month] at e2
  replace e1 := Lib.hid e1
  replace e2 := Lib.hid e2
  clear HP hok5 hB5 hn5 hblk5 hs5 eW5 eg5 hsz z10 z4 z5 hblk2 hB2 hq1 b1 eq k0 k1 k2 k3 k4 k5 k6 k7 k8 k9 k10
  obtain ⟨k0, k1, k2, k3, k4, k5, k6, k7, k8, k9, k10⟩ := row11 hbW5.out
  go_wp2_with fail
  refine (e1.out W5 (Below.refl _ _)).mono ?_
  rintro e w6 ⟨rfl, bb⟩
  have X6 := Lib.hid bb
  have hbw6 := Lib.hid (pd_blk' hbW5.out bb)
  have Bw6 := Lib.hid (below_top' BW5.out bb)
  clear k0 k1 k2 k3 k4 k5 k6 k7 k8 k9 k10 bb hbW5 BW5
  obtain ⟨k0, k1, k2, k3, k4, k5, k6, k7, k8, k9, k10⟩ := row11 hbw6.out
  clear e1
  go_wp2_with fail
  refine (e2.out w6 X6.out).mono ?_
  rintro e w7 ⟨rfl, bb⟩
  have Bw7 := Lib.hid (below_top' Bw6.out bb)
  clear e2 X6 bb hbw6 Bw6 k0 k1 k2 k3 k4 k5 k6 k7 k8 k9 k10
  go_wp2_with fail
  go_ret
  exact ⟨rfl, Bw7.out⟩
end Go.Proofs.Ytpfgmebajefjaaa
