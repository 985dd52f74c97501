/-
  Contract: known, of the law's package.
-/
import Derived.Test.YtbigmbpclikenaaRdLegs
import Derived.Test.YtbigmbpclikenaaRdName
import Derived.Test.YtbigmbpclikenaaRdCount
import Derived.Test.YtbigmbpclikenaaKeepThree
import Derived.Test.YtbigmbpclikenaaKeepProduct
namespace Go.Proofs.Ytbigmbpclikenaa
open Go.RowKit
set_option linter.unusedVariables false
set_option linter.unusedSimpArgs false

def P3 (r : Int) (A1 A2 : Option Addr) : PD := ⟨[67, 76], A1, 3, 3, 5, 0, 1000, 200, r, 4, 2, 40, A2, 3, 3, Q3, R3⟩
theorem P3_chk (A1 A2 : Option Addr) : chk (P3 1 A1 A2) = 0 := by rfl
theorem P3_cnt (A1 A2 : Option Addr) : cntL (P3 1 A1 A2) = 6 := by unfold cntL; rw [if_pos (P3_chk A1 A2)]; show 3 + 3 * (3 - 1) / 2 = 6; decide
theorem P3_legs (A1 A2 : Option Addr) : legsL (P3 1 A1 A2) 4 = (0, 2, true) := by rw [show (4 : Int) = ((4 : Nat) : Int) from rfl, legs_is (P3_chk A1 A2)]; rfl
theorem P3_name (A1 A2 : Option Addr) : nameL (P3 1 A1 A2) 3 = [67, 76, 85, 50, 54, 45, 67, 76, 86, 50, 54] := by
  obtain ⟨i, j, h1, h2, _, _, h⟩ := name_at (p := P3 1 A1 A2) (inst := 3) (by omega) (by rw [P3_cnt]; decide)
  have hl : legsL (P3 1 A1 A2) 3 = (0, 1, true) := by rw [show (3 : Int) = ((3 : Nat) : Int) from rfl, legs_is (P3_chk A1 A2)]; rfl
  rw [hl] at h1 h2
  obtain rfl : i = 0 := by simp only at h1; omega
  obtain rfl : j = 1 := by simp only at h2; omega
  rw [h, if_neg (by decide)]
  show spreadL [67, 76] 320 321 = _
  decide +kernel
set_option maxRecDepth 100000 in
set_option maxHeartbeats 1600000 in
theorem Known_any (w : World) :
    Calls Try.prog 15 #[] w fun e w' => e = .returned (.bool true) ∧ Below w.heap.size w w' := by
  have H3 : Calls Try.prog 10 #[.int .i64 1] w fun e w' => ∃ a1 a2 : Nat, e = .returned (.agg #[.string (str [67, 76]), .slice (some ⟨a1, 0, none⟩) 3 3, .int .i64 5, .int .i64 0, .int .i64 1000, .int .i64 200, .int .i64 1, .int .i64 4, .int .i64 2, .int .i64 40, .slice (some ⟨a2, 0, none⟩) 3 3]) ∧ (P3 1 (some ⟨a1, 0, none⟩) (some ⟨a2, 0, none⟩)).Ok w' ∧ Below w.heap.size w w' :=
    (Three_any 1 (by omega) w).mono fun e w' ⟨a1, a2, he, h1, h2, hb⟩ => ⟨a1, a2, he, ⟨h1, h2, by show [67, 76].length ≤ _; simp, Nat.le_refl _, by show 3 ≤ _; omega, Nat.le_refl _, by show 3 ≤ _; omega, ⟨by show _ ≤ (5 : Int); omega, by show (5 : Int) ≤ _; omega⟩, ⟨by show _ ≤ (0 : Int); omega, by show (0 : Int) ≤ _; omega⟩, ⟨by show _ ≤ (1000 : Int); omega, by show (1000 : Int) ≤ _; omega⟩, ⟨by show _ ≤ (200 : Int); omega, by show (200 : Int) ≤ _; omega⟩, ⟨by show _ ≤ (1 : Int); omega, by show (1 : Int) ≤ _; omega⟩, ⟨by show _ ≤ (4 : Int); omega, by show (4 : Int) ≤ _; omega⟩, ⟨by show _ ≤ (2 : Int); omega, by show (2 : Int) ≤ _; omega⟩, ⟨by show _ ≤ (40 : Int); omega, by show (40 : Int) ≤ _; omega⟩⟩, hb⟩
  go_enter Try.func15, Try.ntmps15
  go_wp2_with fail
  refine H3.mono ?_
  clear H3
  rintro e w1 ⟨a1, a2, rfl, hOk, b1⟩
  obtain ⟨q, eq⟩ : ∃ q, w1.heap.size = q := ⟨_, rfl⟩
  go_upto_region 2 with (fail)
  obtain ⟨W2, eW2⟩ : ∃ W, w1.alloc (.cells #[.string (str [67, 76]), .slice (some ⟨a1, 0, none⟩) 3 3, .int .i64 5, .int .i64 0, .int .i64 1000, .int .i64 200, .int .i64 1, .int .i64 4, .int .i64 2, .int .i64 40, .slice (some ⟨a2, 0, none⟩) 3 3] 25) = W := ⟨_, rfl⟩
  have hB0 : Below w.heap.size w W2 := by rw [← eW2]; exact b1.alloc b1.size _
  have hblk0 : W2.heap[q]? = some (.cells #[.string (str [67, 76]), .slice (some ⟨a1, 0, none⟩) 3 3, .int .i64 5, .int .i64 0, .int .i64 1000, .int .i64 200, .int .i64 1, .int .i64 4, .int .i64 2, .int .i64 40, .slice (some ⟨a2, 0, none⟩) 3 3] 25 (0, 0)) := by rw [← eW2, ← eq]; exact heap_alloc_new w1 _
  have hpb0 : q < W2.heap.size := (Array.getElem?_eq_some_iff.1 hblk0).1
  have hOk2 : (P3 1 (some ⟨a1, 0, none⟩) (some ⟨a2, 0, none⟩)).Ok W2 := by rw [← eW2]; exact hOk.below ((Below.refl _ w1).alloc (Nat.le_refl _) _)
  rw [eW2]
  clear eW2
  have kk := fun (W : World) (hb : W.heap[q]? = some (.cells #[.string (str [67, 76]), .slice (some ⟨a1, 0, none⟩) 3 3, .int .i64 5, .int .i64 0, .int .i64 1000, .int .i64 200, .int .i64 1, .int .i64 4, .int .i64 2, .int .i64 40, .slice (some ⟨a2, 0, none⟩) 3 3] 25 (0, 0))) => row11 hb
  replace kk := Lib.hid kk
  obtain ⟨k0, k1, k2, k3, k4, k5, k6, k7, k8, k9, k10⟩ := kk.out W2 hblk0
  have HL : Hid (∀ W, Below W2.heap.size W2 W → Calls Try.prog 22 #[.agg #[.string (str [67, 76]), .slice (some ⟨a1, 0, none⟩) 3 3, .int .i64 5, .int .i64 0, .int .i64 1000, .int .i64 200, .int .i64 1, .int .i64 4, .int .i64 2, .int .i64 40, .slice (some ⟨a2, 0, none⟩) 3 3], .int .i64 4] W fun e w' => e = .returned (.tuple #[.int .i64 0, .int .i64 2, .bool true]) ∧ Below W.heap.size W w') := Lib.hid (fun W g => by have := PLegs_any (P3 1 (some ⟨a1, 0, none⟩) (some ⟨a2, 0, none⟩)) 4 W (Lib.hid (hOk2.below g)) ⟨by omega, by omega⟩; rw [P3_legs] at this; exact this)
  have HC : Hid (∀ W, Below W2.heap.size W2 W → Calls Try.prog 13 #[.agg #[.string (str [67, 76]), .slice (some ⟨a1, 0, none⟩) 3 3, .int .i64 5, .int .i64 0, .int .i64 1000, .int .i64 200, .int .i64 1, .int .i64 4, .int .i64 2, .int .i64 40, .slice (some ⟨a2, 0, none⟩) 3 3]] W fun e w' => e = .returned (.int .i64 0) ∧ Below W.heap.size W w') := Lib.hid (fun W g => by have := PCheck_any (P3 1 (some ⟨a1, 0, none⟩) (some ⟨a2, 0, none⟩)) W (Lib.hid (hOk2.below g)); rw [P3_chk] at this; exact this)
  have HN : Hid (∀ W, Below W2.heap.size W2 W → Calls Try.prog 21 #[.agg #[.string (str [67, 76]), .slice (some ⟨a1, 0, none⟩) 3 3, .int .i64 5, .int .i64 0, .int .i64 1000, .int .i64 200, .int .i64 1, .int .i64 4, .int .i64 2, .int .i64 40, .slice (some ⟨a2, 0, none⟩) 3 3]] W fun e w' => e = .returned (.int .i64 6) ∧ Below W.heap.size W w') := Lib.hid (fun W g => by have := PCount_any (P3 1 (some ⟨a1, 0, none⟩) (some ⟨a2, 0, none⟩)) W (Lib.hid (hOk2.below g)); rw [P3_cnt] at this; exact this)
  have HA : Hid (∀ W, Below W2.heap.size W2 W → Calls Try.prog 25 #[.agg #[.string (str [67, 76]), .slice (some ⟨a1, 0, none⟩) 3 3, .int .i64 5, .int .i64 0, .int .i64 1000, .int .i64 200, .int .i64 1, .int .i64 4, .int .i64 2, .int .i64 40, .slice (some ⟨a2, 0, none⟩) 3 3], .int .i64 3] W fun e w' => e = .returned (.string (str [67, 76, 85, 50, 54, 45, 67, 76, 86, 50, 54])) ∧ Below W.heap.size W w') := Lib.hid (fun W g => by have := PName_any (P3 1 (some ⟨a1, 0, none⟩) (some ⟨a2, 0, none⟩)) 3 W (Lib.hid (hOk2.below g)) ⟨by omega, by omega⟩; rw [P3_name] at this; exact this)
  have hnm : ((str [67, 76, 85, 50, 54, 45, 67, 76, 86, 50, 54]).toList == [67, 76, 85, 50, 54, 45, 67, 76, 86, 50, 54]) = true := by rw [ByteArray.toList_eq]; exact beq_self_eq_true _
  clear hOk b1 hOk2
  go_wp2_with fail
  refine (HL.out W2 (Below.refl _ _)).mono ?_
  clear HL
  rintro e w3 ⟨rfl, b1⟩
  have hblk1 : w3.heap[q]? = _ := (b1.block q hpb0).trans hblk0
  have hB1 := hB0.trans (b1.mono hB0.size)
  have B1 : Below W2.heap.size W2 w3 := b1
  have hpb1 : q < w3.heap.size := (Array.getElem?_eq_some_iff.1 hblk1).1
  clear k0 k1 k2 k3 k4 k5 k6 k7 k8 k9 k10
  obtain ⟨k0, k1, k2, k3, k4, k5, k6, k7, k8, k9, k10⟩ := kk.out w3 hblk1
  clear hblk0 hpb0 hB0 b1 
  go_wp2_with fail
  refine (HC.out w3 B1).mono ?_
  clear HC
  rintro e w4 ⟨rfl, b2⟩
  have hblk2 : w4.heap[q]? = _ := (b2.block q hpb1).trans hblk1
  have hB2 := hB1.trans (b2.mono hB1.size)
  have B2 : Below W2.heap.size W2 w4 := B1.trans (b2.mono B1.size)
  have hpb2 : q < w4.heap.size := (Array.getElem?_eq_some_iff.1 hblk2).1
  clear k0 k1 k2 k3 k4 k5 k6 k7 k8 k9 k10
  obtain ⟨k0, k1, k2, k3, k4, k5, k6, k7, k8, k9, k10⟩ := kk.out w4 hblk2
  clear hblk1 hpb1 hB1 b2 B1
  go_wp2_with fail
  refine (HN.out w4 B2).mono ?_
  clear HN
  rintro e w5 ⟨rfl, b3⟩
  have hblk3 : w5.heap[q]? = _ := (b3.block q hpb2).trans hblk2
  have hB3 := hB2.trans (b3.mono hB2.size)
  have B3 : Below W2.heap.size W2 w5 := B2.trans (b3.mono B2.size)
  have hpb3 : q < w5.heap.size := (Array.getElem?_eq_some_iff.1 hblk3).1
  clear k0 k1 k2 k3 k4 k5 k6 k7 k8 k9 k10
  obtain ⟨k0, k1, k2, k3, k4, k5, k6, k7, k8, k9, k10⟩ := kk.out w5 hblk3
  clear hblk2 hpb2 hB2 b3 B2
  go_wp2_with fail
  refine (HA.out w5 B3).mono ?_
  clear HA
  rintro e w6 ⟨rfl, b4⟩
  have hblk4 : w6.heap[q]? = _ := (b4.block q hpb3).trans hblk3
  have hB4 := hB3.trans (b4.mono hB3.size)
  have B4 : Below W2.heap.size W2 w6 := B3.trans (b4.mono B3.size)
  have hpb4 : q < w6.heap.size := (Array.getElem?_eq_some_iff.1 hblk4).1
  clear k0 k1 k2 k3 k4 k5 k6 k7 k8 k9 k10
  obtain ⟨k0, k1, k2, k3, k4, k5, k6, k7, k8, k9, k10⟩ := kk.out w6 hblk4
  clear hblk3 hpb3 hB3 b4 B3
  go_wp2_with fail
  go_ret
  exact ⟨rfl, hB4⟩
end Go.Proofs.Ytbigmbpclikenaa
