/-
  The walk of the law RefdataNumbers.
-/
import Derived.Test.YtbigmbpclikenaaRdSame
import Derived.Test.YtbigmbpclikenaaRdTurned
import Derived.Test.YtbigmbpclikenaaRdKnown
import Derived.Test.YtbigmbpclikenaaRdPrice
import Derived.Deep.Cut
namespace Go.Proofs.Ytbigmbpclikenaa
open Go.RowKit
set_option linter.unusedVariables false
set_option linter.unusedSimpArgs false

def NS : List Int := [-9223372036854775808, -1000005, -1000000, -5, -1, 0, 1, 2, 3, 4, 5, 100, 101, 320, 321, 490, 995, 1000, 1001, 1005, 1199, 1200, 1000000, 1000001, 9223372036854775807]
def nsAt (i : Nat) : Int := NS.getD i 0
theorem ns_range : ∀ i, i < 25 → -9223372036854775808 ≤ nsAt i ∧ nsAt i ≤ 9223372036854775807 := by decide
theorem ns_cells : (NS.map (Value.int .i64)).toArray = #[.int .i64 (-9223372036854775808), .int .i64 (-1000005), .int .i64 (-1000000), .int .i64 (-5), .int .i64 (-1), .int .i64 0, .int .i64 1, .int .i64 2, .int .i64 3, .int .i64 4, .int .i64 5, .int .i64 100, .int .i64 101, .int .i64 320, .int .i64 321, .int .i64 490, .int .i64 995, .int .i64 1000, .int .i64 1001, .int .i64 1005, .int .i64 1199, .int .i64 1200, .int .i64 1000000, .int .i64 1000001, .int .i64 9223372036854775807] := rfl
theorem ns_cell {w : World} {g : Nat} {t : TypeId} (h : w.heap[g]? = some (.cells #[.int .i64 (-9223372036854775808), .int .i64 (-1000005), .int .i64 (-1000000), .int .i64 (-5), .int .i64 (-1), .int .i64 0, .int .i64 1, .int .i64 2, .int .i64 3, .int .i64 4, .int .i64 5, .int .i64 100, .int .i64 101, .int .i64 320, .int .i64 321, .int .i64 490, .int .i64 995, .int .i64 1000, .int .i64 1001, .int .i64 1005, .int .i64 1199, .int .i64 1200, .int .i64 1000000, .int .i64 1000001, .int .i64 9223372036854775807] t (0, 0))) (i : Nat) (hi : i < 25) : w.cell? ⟨g, i, none⟩ = some (.int .i64 (nsAt i)) := by
  rw [cell_of_row w g i _ t _ h, ← ns_cells]
  rw [List.getElem?_toArray, List.getElem?_map]
  have hl : i < NS.length := hi
  rw [List.getElem?_eq_getElem hl]
  unfold nsAt
  rw [List.getD_eq_getElem?_getD, List.getElem?_eq_getElem hl]
  rfl
theorem P3_price (A1 A2 : Option Addr) : priceL (P3 1 A1 A2) 6 5 = 20 ∧ priceL (P3 1 A1 A2) 0 4 = 22 ∧ priceL (P3 1 A1 A2) 0 1005 = 23 := by
  have h0 : legsL (P3 1 A1 A2) 0 = (0, 0, false) := by rw [show (0 : Int) = ((0 : Nat) : Int) from rfl, legs_is (P3_chk A1 A2)]; rfl
  refine ⟨?_, ?_, ?_⟩
  · unfold priceL; rw [P3_chk, P3_cnt, if_neg (by decide), if_pos (by decide)]
  · unfold priceL; rw [P3_chk, P3_cnt, if_neg (by decide), if_neg (by decide), if_pos (by show (4 : Int).tmod 5 ≠ 0; decide)]
  · unfold priceL; rw [P3_chk, P3_cnt, if_neg (by decide), if_neg (by decide), if_neg (by show ¬ (1005 : Int).tmod 5 ≠ 0; decide), h0, if_neg (by decide), if_pos (by show (1005 : Int) < 0 ∨ (1000 : Int) < 1005; decide)]
def P0 : PD := ⟨[], none, 0, 0, 0, 0, 0, 0, 0, 0, 0, 0, none, 0, 0, fun _ => 0, fun _ => 0⟩
theorem P0_chk : chk P0 = 12 := rfl
theorem P0_ok (w : World) : P0.Ok w := ⟨fun i hi => absurd hi (by show ¬ i < 0; omega), fun i hi => absurd hi (by show ¬ i < 0; omega), by show ([] : List UInt8).length ≤ _; simp, Nat.le_refl _, by show 0 ≤ _; omega, Nat.le_refl _, by show 0 ≤ _; omega, ⟨by show _ ≤ (0 : Int); omega, by show (0 : Int) ≤ _; omega⟩, ⟨by show _ ≤ (0 : Int); omega, by show (0 : Int) ≤ _; omega⟩, ⟨by show _ ≤ (0 : Int); omega, by show (0 : Int) ≤ _; omega⟩, ⟨by show _ ≤ (0 : Int); omega, by show (0 : Int) ≤ _; omega⟩, ⟨by show _ ≤ (0 : Int); omega, by show (0 : Int) ≤ _; omega⟩, ⟨by show _ ≤ (0 : Int); omega, by show (0 : Int) ≤ _; omega⟩, ⟨by show _ ≤ (0 : Int); omega, by show (0 : Int) ≤ _; omega⟩, ⟨by show _ ≤ (0 : Int); omega, by show (0 : Int) ≤ _; omega⟩⟩
set_option maxRecDepth 100000 in
set_option maxHeartbeats 1600000 in
theorem Numbers_walk (w : World) :
    Calls Try.prog 3 #[] w fun e w' => e = .returned (.bool true) ∧ Below w.heap.size w w' := by
  have H3 : Calls Try.prog 10 #[.int .i64 1] w fun e w' => ∃ a1 a2 : Nat, e = .returned (.agg #[.string (str [67, 76]), .slice (some ⟨a1, 0, none⟩) 3 3, .int .i64 5, .int .i64 0, .int .i64 1000, .int .i64 200, .int .i64 1, .int .i64 4, .int .i64 2, .int .i64 40, .slice (some ⟨a2, 0, none⟩) 3 3]) ∧ (P3 1 (some ⟨a1, 0, none⟩) (some ⟨a2, 0, none⟩)).Ok w' ∧ Below w.heap.size w w' :=
    (Three_any 1 (by omega) w).mono fun e w' ⟨a1, a2, he, h1, h2, hb⟩ => ⟨a1, a2, he, ⟨h1, h2, by show [67, 76].length ≤ _; simp, Nat.le_refl _, by show 3 ≤ _; omega, Nat.le_refl _, by show 3 ≤ _; omega, ⟨by show _ ≤ (5 : Int); omega, by show (5 : Int) ≤ _; omega⟩, ⟨by show _ ≤ (0 : Int); omega, by show (0 : Int) ≤ _; omega⟩, ⟨by show _ ≤ (1000 : Int); omega, by show (1000 : Int) ≤ _; omega⟩, ⟨by show _ ≤ (200 : Int); omega, by show (200 : Int) ≤ _; omega⟩, ⟨by show _ ≤ (1 : Int); omega, by show (1 : Int) ≤ _; omega⟩, ⟨by show _ ≤ (4 : Int); omega, by show (4 : Int) ≤ _; omega⟩, ⟨by show _ ≤ (2 : Int); omega, by show (2 : Int) ≤ _; omega⟩, ⟨by show _ ≤ (40 : Int); omega, by show (40 : Int) ≤ _; omega⟩⟩, hb⟩
  go_enter Try.func3, Try.ntmps3
  go_wp2_with fail
  refine H3.mono ?_
  clear H3
  rintro e w1 ⟨a1, a2, rfl, hOk, b1⟩
  obtain ⟨q, eq⟩ : ∃ q, w1.heap.size = q := ⟨_, rfl⟩
  go_upto_region 2 with (fail)
  obtain ⟨W2, eW2⟩ : ∃ W, w1.alloc (.cells #[.string (str [67, 76]), .slice (some ⟨a1, 0, none⟩) 3 3, .int .i64 5, .int .i64 0, .int .i64 1000, .int .i64 200, .int .i64 1, .int .i64 4, .int .i64 2, .int .i64 40, .slice (some ⟨a2, 0, none⟩) 3 3] 25) = W := ⟨_, rfl⟩
  have hB2 : Below w.heap.size w W2 := by rw [← eW2]; exact b1.alloc b1.size _
  have H2 : W2.heap[q]? = some (.cells #[.string (str [67, 76]), .slice (some ⟨a1, 0, none⟩) 3 3, .int .i64 5, .int .i64 0, .int .i64 1000, .int .i64 200, .int .i64 1, .int .i64 4, .int .i64 2, .int .i64 40, .slice (some ⟨a2, 0, none⟩) 3 3] 25 (0, 0)) := by rw [← eW2, ← eq]; exact heap_alloc_new w1 _
  have hOk2 : (P3 1 (some ⟨a1, 0, none⟩) (some ⟨a2, 0, none⟩)).Ok W2 := by rw [← eW2]; exact hOk.below ((Below.refl _ w1).alloc (Nat.le_refl _) _)
  rw [eW2]
  clear eW2 hOk b1 eq
  have HT : Hid (∀ (i k : Nat), i < 15 → k < 25 → ∀ W, Below W2.heap.size W2 W → Calls Try.prog 11 #[.agg #[.string (str [67, 76]), .slice (some ⟨a1, 0, none⟩) 3 3, .int .i64 5, .int .i64 0, .int .i64 1000, .int .i64 200, .int .i64 1, .int .i64 4, .int .i64 2, .int .i64 40, .slice (some ⟨a2, 0, none⟩) 3 3], .int .i64 i, .int .i64 (nsAt k)] W fun e w' => ∃ d : PD, e = .returned d.val ∧ d.Ok w' ∧ Below W.heap.size W w') := Lib.hid (fun i k hi hk W g => Turned_any (P3 1 (some ⟨a1, 0, none⟩) (some ⟨a2, 0, none⟩)) i (nsAt k) W (Lib.hid (hOk2.below g)) ⟨by omega, by omega⟩ (ns_range k hk) (by show 1 ≤ 3; omega) (by show 1 ≤ 3; omega) (by show 3 ≤ _; omega) (by show 3 ≤ _; omega))
  have HP1 : Hid (∀ W, Below W2.heap.size W2 W → Calls Try.prog 14 #[.agg #[.string (str [67, 76]), .slice (some ⟨a1, 0, none⟩) 3 3, .int .i64 5, .int .i64 0, .int .i64 1000, .int .i64 200, .int .i64 1, .int .i64 4, .int .i64 2, .int .i64 40, .slice (some ⟨a2, 0, none⟩) 3 3], .int .i64 6, .int .i64 5] W fun e w' => e = .returned (.int .i64 20) ∧ Below W.heap.size W w') := Lib.hid (fun W g => by have := PPrice_any (P3 1 (some ⟨a1, 0, none⟩) (some ⟨a2, 0, none⟩)) 6 5 W (Lib.hid (hOk2.below g)) ⟨by omega, by omega⟩ ⟨by omega, by omega⟩; rw [(P3_price _ _).1] at this; exact this)
  have HP2 : Hid (∀ W, Below W2.heap.size W2 W → Calls Try.prog 14 #[.agg #[.string (str [67, 76]), .slice (some ⟨a1, 0, none⟩) 3 3, .int .i64 5, .int .i64 0, .int .i64 1000, .int .i64 200, .int .i64 1, .int .i64 4, .int .i64 2, .int .i64 40, .slice (some ⟨a2, 0, none⟩) 3 3], .int .i64 0, .int .i64 4] W fun e w' => e = .returned (.int .i64 22) ∧ Below W.heap.size W w') := Lib.hid (fun W g => by have := PPrice_any (P3 1 (some ⟨a1, 0, none⟩) (some ⟨a2, 0, none⟩)) 0 4 W (Lib.hid (hOk2.below g)) ⟨by omega, by omega⟩ ⟨by omega, by omega⟩; rw [(P3_price _ _).2.1] at this; exact this)
  have HP3 : Hid (∀ W, Below W2.heap.size W2 W → Calls Try.prog 14 #[.agg #[.string (str [67, 76]), .slice (some ⟨a1, 0, none⟩) 3 3, .int .i64 5, .int .i64 0, .int .i64 1000, .int .i64 200, .int .i64 1, .int .i64 4, .int .i64 2, .int .i64 40, .slice (some ⟨a2, 0, none⟩) 3 3], .int .i64 0, .int .i64 1005] W fun e w' => e = .returned (.int .i64 23) ∧ Below W.heap.size W w') := Lib.hid (fun W g => by have := PPrice_any (P3 1 (some ⟨a1, 0, none⟩) (some ⟨a2, 0, none⟩)) 0 1005 W (Lib.hid (hOk2.below g)) ⟨by omega, by omega⟩ ⟨by omega, by omega⟩; rw [(P3_price _ _).2.2] at this; exact this)
  have HC0 : Hid (∀ W, Calls Try.prog 13 #[.agg #[.string (str []), .slice none 0 0, .int .i64 0, .int .i64 0, .int .i64 0, .int .i64 0, .int .i64 0, .int .i64 0, .int .i64 0, .int .i64 0, .slice none 0 0]] W fun e w' => e = .returned (.int .i64 12) ∧ Below W.heap.size W w') := Lib.hid (fun W => by have := PCheck_any P0 W (Lib.hid (P0_ok W)); rw [P0_chk] at this; exact this)
  have HR : Hid (∀ W, Below W2.heap.size W2 W → W.heap[q]? = some (.cells #[.string (str [67, 76]), .slice (some ⟨a1, 0, none⟩) 3 3, .int .i64 5, .int .i64 0, .int .i64 1000, .int .i64 200, .int .i64 1, .int .i64 4, .int .i64 2, .int .i64 40, .slice (some ⟨a2, 0, none⟩) 3 3] 25 (0, 0))) := Lib.hid (fun W g => (g.block q (Array.getElem?_eq_some_iff.1 H2).1).trans H2)
  have HB : Hid (∀ W, Below W2.heap.size W2 W → Below w.heap.size w W) := Lib.hid (fun W g => hB2.trans (g.mono hB2.size))
  have hR := Lib.hid (Below.refl W2.heap.size W2)
  clear hOk2 H2 hB2
  go_wp2_with fail
  go_loopw [2] (fun iv wr => ∃ i : Nat, iv = .int .i64 i ∧ i ≤ 15 ∧ Hid (Below W2.heap.size W2 wr)) (fun i _ => 15 - (intOf i).toNat)
  case atStart => exact ⟨0, rfl, by omega, hR⟩
  case round =>
    clear hR
    obtain ⟨i, rfl, hi, hr⟩ := hrel
    by_cases hlt : i < 15
    · have d1 : decide ((i : Int) < 15) = true := decide_eq_true (by omega)
      go_upto_region 5 with (fail)
      obtain ⟨g, eg⟩ : ∃ g, wr.heap.size = g := ⟨_, rfl⟩
      obtain ⟨W5, eW5⟩ : ∃ W, wr.alloc (.cells #[.int .i64 (-9223372036854775808), .int .i64 (-1000005), .int .i64 (-1000000), .int .i64 (-5), .int .i64 (-1), .int .i64 0, .int .i64 1, .int .i64 2, .int .i64 3, .int .i64 4, .int .i64 5, .int .i64 100, .int .i64 101, .int .i64 320, .int .i64 321, .int .i64 490, .int .i64 995, .int .i64 1000, .int .i64 1001, .int .i64 1005, .int .i64 1199, .int .i64 1200, .int .i64 1000000, .int .i64 1000001, .int .i64 9223372036854775807] 2) = W := ⟨_, rfl⟩
      have HN : Hid (∀ k, k < 25 → W5.cell? ⟨g, k, none⟩ = some (.int .i64 (nsAt k))) := Lib.hid (fun k hk => ns_cell (by rw [← eW5, ← eg]; exact heap_alloc_new wr _) k hk)
      have hr5 := Lib.hid (show Below W2.heap.size W2 W5 from by rw [← eW5]; exact hr.out.alloc hr.out.size _)
      replace eW5 := Lib.hid eW5
      clear hr
      go_wp2_with fail
      rw [eW5.out]
      clear eW5
      have hr6 := Lib.hid (Below.refl W5.heap.size W5)
      go_loopw [14] (fun kv wr => ∃ k : Nat, kv = .int .i64 k ∧ k ≤ 25 ∧ Hid (Below W5.heap.size W5 wr)) (fun k _ => 25 - (intOf k).toNat)
      case atStart => exact ⟨0, rfl, by omega, hr6⟩
      case round =>
        clear hr6
        obtain ⟨k, rfl, hk, hr⟩ := hrel
        have hr2 := Lib.hid (hr5.out.trans (hr.out.mono hr5.out.size))
        obtain ⟨k0, k1, k2, k3, k4, k5, k6, k7, k8, k9, k10⟩ := row11 (HR.out _ hr2.out)
        by_cases hlk : k < 25
        · have d2 : decide ((k : Int) < 25) = true := decide_eq_true (by omega)
          have d3 : (k : Int) < 25 := by omega
          have n0 := (hr.out.cell (p := ⟨g, k, none⟩) (World.block_lt_of_cell? W5 _ (HN.out k hlk))).trans (HN.out k hlk)
          obtain ⟨nk, enk⟩ : ∃ x, nsAt k = x := ⟨_, rfl⟩
          have hnk := ns_range k hlk
          have HTk := Lib.hid (HT.out i k hlt hlk wr hr2.out)
          rw [enk] at n0 hnk HTk
          clear enk
          go_wp2_with fail
          refine HTk.out.mono ?_
          clear HTk
          rintro e w6 ⟨d, rfl, hOd, b6⟩
          clear k0 k1 k2 k3 k4 k5 k6 k7 k8 k9 k10 n0
          have hr7 := Lib.hid (hr.out.trans (b6.mono hr.out.size))
          obtain ⟨db, edb⟩ : ∃ x, w6.heap.size = x := ⟨_, rfl⟩
          have HSA : Hid (∀ j : Int, -1 ≤ j → j ≤ 8 → ∀ W, Below w6.heap.size w6 W → Calls Try.prog 12 #[d.val, .int .i64 j, .int .i64 nk, .string (str [67, 76, 85, 50, 54, 45, 67, 76, 90, 50, 54]), .int .i64 j, .int .i64 2] W fun e w' => e = .returned (.bool true) ∧ Below W.heap.size W w') := Lib.hid (fun j hj1 hj2 W g => Same_any d j nk j 2 _ W (Lib.hid (hOd.below g)) ⟨by omega, by omega⟩ hnk ⟨by omega, by omega⟩ ⟨by omega, by omega⟩)
          obtain ⟨coded, A1d, n1d, c1d, tickd, lowd, highd, wided, ruled, topd, leastd, partd, A2d, n2d, c2d, Qd, Rd⟩ := d
          replace HSA : Hid (∀ j : Int, -1 ≤ j → j ≤ 8 → ∀ W, Below w6.heap.size w6 W → Calls Try.prog 12 #[.agg #[.string (str coded), .slice A1d n1d c1d, .int .i64 tickd, .int .i64 lowd, .int .i64 highd, .int .i64 wided, .int .i64 ruled, .int .i64 topd, .int .i64 leastd, .int .i64 partd, .slice A2d n2d c2d], .int .i64 j, .int .i64 nk, .string (str [67, 76, 85, 50, 54, 45, 67, 76, 90, 50, 54]), .int .i64 j, .int .i64 2] W fun e w' => e = .returned (.bool true) ∧ Below W.heap.size W w') := HSA
          rw [show PD.val ⟨coded, A1d, n1d, c1d, tickd, lowd, highd, wided, ruled, topd, leastd, partd, A2d, n2d, c2d, Qd, Rd⟩ = .agg #[.string (str coded), .slice A1d n1d c1d, .int .i64 tickd, .int .i64 lowd, .int .i64 highd, .int .i64 wided, .int .i64 ruled, .int .i64 topd, .int .i64 leastd, .int .i64 partd, .slice A2d n2d c2d] from rfl]
          obtain ⟨W7, eW7⟩ : ∃ W, w6.alloc (.cells #[.string (str coded), .slice A1d n1d c1d, .int .i64 tickd, .int .i64 lowd, .int .i64 highd, .int .i64 wided, .int .i64 ruled, .int .i64 topd, .int .i64 leastd, .int .i64 partd, .slice A2d n2d c2d] 25) = W := ⟨_, rfl⟩
          have H7 : W7.heap[db]? = some (.cells #[.string (str coded), .slice A1d n1d c1d, .int .i64 tickd, .int .i64 lowd, .int .i64 highd, .int .i64 wided, .int .i64 ruled, .int .i64 topd, .int .i64 leastd, .int .i64 partd, .slice A2d n2d c2d] 25 (0, 0)) := by rw [← eW7, ← edb]; exact heap_alloc_new w6 _
          have B7 := Lib.hid (show Below w6.heap.size w6 W7 from by rw [← eW7]; exact (Below.refl _ w6).alloc (Nat.le_refl _) _)
          have H7h := Lib.hid H7
          replace eW7 := Lib.hid eW7
          clear hOd b6 hr H7
          go_wp2_with fail
          rw [eW7.out]
          clear eW7
          have hs7 := Lib.hid (show Below W7.heap.size W7 W7 from Below.refl _ _)
          go_loopw [6] (fun jv wr => ∃ j : Int, jv = .int .i64 j ∧ -1 ≤ j ∧ j ≤ 8 ∧ Hid (Below W7.heap.size W7 wr)) (fun j _ => (8 - intOf j).toNat)
          case atStart => exact ⟨-1, rfl, by omega, by omega, hs7⟩
          case round =>
            clear hs7
            obtain ⟨j, rfl, hj1, hj2, hs⟩ := hrel
            have hB9 := B7.out.trans (hs.out.mono B7.out.size)
            have H9 : wr.heap[db]? = _ := (hs.out.block db (Array.getElem?_eq_some_iff.1 H7h.out).1).trans H7h.out
            obtain ⟨k0, k1, k2, k3, k4, k5, k6, k7, k8, k9, k10⟩ := row11 H9
            by_cases hlj : j < 8
            · have d4 : decide (j < 8) = true := decide_eq_true hlj
              have HX := Lib.hid (HSA.out j hj1 hj2 wr hB9)
              clear hB9 H9
              go_wp2_with fail
              refine HX.out.mono ?_
              clear HX
              rintro e w8 ⟨rfl, b8⟩
              have hs9 := Lib.hid (hs.out.trans (b8.mono hs.out.size))
              clear hs b8 k0 k1 k2 k3 k4 k5 k6 k7 k8 k9 k10
              go_wp2_with fail
              go_roundw
              case rel => exact ⟨j + 1, by go_num, by omega, by omega, hs9⟩
              case measure => simp [intOf]; omega
            · have d4 : decide (j < 8) = false := decide_eq_false hlj
              have hr8 := Lib.hid (hr7.out.trans (hB9.mono hr7.out.size))
              clear hB9 H9 hs k0 k1 k2 k3 k4 k5 k6 k7 k8 k9 k10
              go_wp2_with fail
              go_roundw
              case rel => exact ⟨k + 1, by go_num, by omega, hr8⟩
              case measure => simp [intOf]; omega
        · obtain rfl : k = 25 := by omega
          have d2 : decide (((25 : Nat) : Int) < 25) = false := by decide
          clear k0 k1 k2 k3 k4 k5 k6 k7 k8 k9 k10
          go_wp2_with fail
          go_roundw
          case rel => exact ⟨i + 1, by go_num, by omega, hr2⟩
          case measure => simp [intOf]; omega
    · obtain rfl : i = 15 := by omega
      have d1 : decide (((15 : Nat) : Int) < 15) = false := by decide
      have H0 := HR.out wr hr.out
      have hB0 := HB.out wr hr.out
      have B0 := hr.out
      clear hr HT HR HB
      obtain ⟨k0, k1, k2, k3, k4, k5, k6, k7, k8, k9, k10⟩ := row11 H0
      go_wp2_with fail
      refine (HC0.out _).mono ?_
      clear HC0
      rintro e u1 ⟨rfl, b1⟩
      have H1 : u1.heap[q]? = _ := (b1.block q (Array.getElem?_eq_some_iff.1 H0).1).trans H0
      have hB1 := hB0.trans (b1.mono hB0.size)
      have B1 : Below W2.heap.size W2 u1 := B0.trans (b1.mono B0.size)
      clear k0 k1 k2 k3 k4 k5 k6 k7 k8 k9 k10
      obtain ⟨k0, k1, k2, k3, k4, k5, k6, k7, k8, k9, k10⟩ := row11 H1
      clear H0 hB0 B0 b1
      go_wp2_with fail
      refine (HP1.out u1 B1).mono ?_
      clear HP1
      rintro e u2 ⟨rfl, b2⟩
      have H2 : u2.heap[q]? = _ := (b2.block q (Array.getElem?_eq_some_iff.1 H1).1).trans H1
      have hB2 := hB1.trans (b2.mono hB1.size)
      have B2 : Below W2.heap.size W2 u2 := B1.trans (b2.mono B1.size)
      clear k0 k1 k2 k3 k4 k5 k6 k7 k8 k9 k10
      obtain ⟨k0, k1, k2, k3, k4, k5, k6, k7, k8, k9, k10⟩ := row11 H2
      clear H1 hB1 B1 b2
      go_wp2_with fail
      refine (HP2.out u2 B2).mono ?_
      clear HP2
      rintro e u3 ⟨rfl, b3⟩
      have H3 : u3.heap[q]? = _ := (b3.block q (Array.getElem?_eq_some_iff.1 H2).1).trans H2
      have hB3 := hB2.trans (b3.mono hB2.size)
      have B3 : Below W2.heap.size W2 u3 := B2.trans (b3.mono B2.size)
      clear k0 k1 k2 k3 k4 k5 k6 k7 k8 k9 k10
      obtain ⟨k0, k1, k2, k3, k4, k5, k6, k7, k8, k9, k10⟩ := row11 H3
      clear H2 hB2 B2 b3
      go_wp2_with fail
      refine (HP3.out u3 B3).mono ?_
      clear HP3
      rintro e u4 ⟨rfl, b4⟩
      have H4 : u4.heap[q]? = _ := (b4.block q (Array.getElem?_eq_some_iff.1 H3).1).trans H3
      have hB4 := hB3.trans (b4.mono hB3.size)
      have B4 : Below W2.heap.size W2 u4 := B3.trans (b4.mono B3.size)
      clear k0 k1 k2 k3 k4 k5 k6 k7 k8 k9 k10
      obtain ⟨k0, k1, k2, k3, k4, k5, k6, k7, k8, k9, k10⟩ := row11 H4
      clear H3 hB3 B3 b4
      go_wp2_with fail
      refine (Known_any u4).mono ?_
      rintro e u5 ⟨rfl, b5⟩
      have H5 : u5.heap[q]? = _ := (b5.block q (Array.getElem?_eq_some_iff.1 H4).1).trans H4
      have hB5 := hB4.trans (b5.mono hB4.size)
      have B5 : Below W2.heap.size W2 u5 := B4.trans (b5.mono B4.size)
      clear k0 k1 k2 k3 k4 k5 k6 k7 k8 k9 k10
      obtain ⟨k0, k1, k2, k3, k4, k5, k6, k7, k8, k9, k10⟩ := row11 H5
      clear H4 hB4 B4 b5
      go_wp2_with fail
      go_ret
      exact ⟨rfl, hB5⟩
end Go.Proofs.Ytbigmbpclikenaa
