/-
  Contract: Right, of the program.
-/
import Derived.Test.YtdbaphmhfoajgaaCmdRight1
import Derived.Test.YtdbaphmhfoajgaaCmdRight2
import Derived.Test.YtdbaphmhfoajgaaCmdRight3
namespace Go.Proofs.Ytdbaphmhfoajgaa
open Go.RowKit
set_option linter.unusedVariables false
set_option linter.unusedSimpArgs false

theorem PR1 (i n s p q l t : Int) (S : List UInt8) (w : World) (hL : S.length ≤ 140737488355328) :
    Calls Try.prog 12 #[.agg #[.int .i64 1, .int .i64 i, .int .i64 n, .int .i64 s, .int .i64 p, .int .i64 q, .int .i64 l, .int .i64 t, .string (str S)]] w fun e w' => e = .returned (.int .i64 (rightL 1 i n s p q l t S)) ∧ Below w.heap.size w w' := by
  by_cases hid : 1 ≤ i ∧ i ≤ 1099511627776
  · have hz := hid
    by_cases hs1 : s = 1
    · have hz := hs1
      by_cases htime : 1 ≤ t ∧ t ≤ 3
      · have hz := htime
        by_cases hqty : 1 ≤ q ∧ q ≤ 1000000
        · have hz := hqty
          by_cases hleast : 0 ≤ l ∧ l ≤ q
          · have hz := hleast
            by_cases hS : S = []
            · have hlab : ¬ ((1 : Int) = 1 ∧ S ≠ [] ∧ rightB S = false) := fun h => h.2.1 hS
              by_cases hprice : -2000000 ≤ p ∧ p ≤ 2000000
              · have hz := hprice
                by_cases hinst : 0 ≤ n ∧ n ≤ 255
                · have hz := hinst
                  have e : rightL 1 i n s p q l t S = 0 := by unfold rightL; rw [if_neg (by omega), if_neg (by omega), if_neg (by omega), if_neg (by omega), if_neg (by omega), if_neg (by omega), if_neg hlab, if_neg (by omega), if_neg (by omega)]
                  rw [e]; exact PR1_idok_sibuy_tiok_qtok_leok_lanone_prok_inok i n s p q l t S w hL (by omega) (by omega) (by omega) (by omega) (by omega) (by omega) (by omega) (by omega) (by omega) hS (by omega) (by omega) (by omega) (by omega)
                · by_cases hlinst : n < 0
                  · have hz := hlinst
                    have e : rightL 1 i n s p q l t S = 20 := by unfold rightL; rw [if_neg (by omega), if_neg (by omega), if_neg (by omega), if_neg (by omega), if_neg (by omega), if_neg (by omega), if_neg hlab, if_neg (by omega), if_pos (by omega)]
                    rw [e]; exact PR1_idok_sibuy_tiok_qtok_leok_lanone_prok_inlow i n s p q l t S w hL (by omega) (by omega) (by omega) (by omega) (by omega) (by omega) (by omega) (by omega) (by omega) hS (by omega) (by omega) (by omega)
                  · have hz := hlinst
                    have e : rightL 1 i n s p q l t S = 20 := by unfold rightL; rw [if_neg (by omega), if_neg (by omega), if_neg (by omega), if_neg (by omega), if_neg (by omega), if_neg (by omega), if_neg hlab, if_neg (by omega), if_pos (by omega)]
                    rw [e]; exact PR1_idok_sibuy_tiok_qtok_leok_lanone_prok_inhigh i n s p q l t S w hL (by omega) (by omega) (by omega) (by omega) (by omega) (by omega) (by omega) (by omega) (by omega) hS (by omega) (by omega) (by omega) (by omega)
              · have hz := hprice
                have e : rightL 1 i n s p q l t S = 23 := by unfold rightL; rw [if_neg (by omega), if_neg (by omega), if_neg (by omega), if_neg (by omega), if_neg (by omega), if_neg (by omega), if_neg hlab, if_pos (by omega)]
                rw [e]; exact PR1_idok_sibuy_tiok_qtok_leok_lanone_prbad i n s p q l t S w hL (by omega) (by omega) (by omega) (by omega) (by omega) (by omega) (by omega) (by omega) (by omega) hS (by omega)
            · cases hR : rightB S
              · have hz := hR
                have e : rightL 1 i n s p q l t S = 29 := by unfold rightL; rw [if_neg (by omega), if_neg (by omega), if_neg (by omega), if_neg (by omega), if_neg (by omega), if_neg (by omega), if_pos ⟨rfl, hS, hR⟩]
                rw [e]; exact PR1_idok_sibuy_tiok_qtok_leok_labad i n s p q l t S w hL (by omega) (by omega) (by omega) (by omega) (by omega) (by omega) (by omega) (by omega) (by omega) hS hR
              · have hlab : ¬ ((1 : Int) = 1 ∧ S ≠ [] ∧ rightB S = false) := fun h => by rw [hR] at h; cases h.2.2
                by_cases hprice : -2000000 ≤ p ∧ p ≤ 2000000
                · have hz := hprice
                  by_cases hinst : 0 ≤ n ∧ n ≤ 255
                  · have hz := hinst
                    have e : rightL 1 i n s p q l t S = 0 := by unfold rightL; rw [if_neg (by omega), if_neg (by omega), if_neg (by omega), if_neg (by omega), if_neg (by omega), if_neg (by omega), if_neg hlab, if_neg (by omega), if_neg (by omega)]
                    rw [e]; exact PR1_idok_sibuy_tiok_qtok_leok_lagood_prok_inok i n s p q l t S w hL (by omega) (by omega) (by omega) (by omega) (by omega) (by omega) (by omega) (by omega) (by omega) hS hR (by omega) (by omega) (by omega) (by omega)
                  · by_cases hlinst : n < 0
                    · have hz := hlinst
                      have e : rightL 1 i n s p q l t S = 20 := by unfold rightL; rw [if_neg (by omega), if_neg (by omega), if_neg (by omega), if_neg (by omega), if_neg (by omega), if_neg (by omega), if_neg hlab, if_neg (by omega), if_pos (by omega)]
                      rw [e]; exact PR1_idok_sibuy_tiok_qtok_leok_lagood_prok_inlow i n s p q l t S w hL (by omega) (by omega) (by omega) (by omega) (by omega) (by omega) (by omega) (by omega) (by omega) hS hR (by omega) (by omega) (by omega)
                    · have hz := hlinst
                      have e : rightL 1 i n s p q l t S = 20 := by unfold rightL; rw [if_neg (by omega), if_neg (by omega), if_neg (by omega), if_neg (by omega), if_neg (by omega), if_neg (by omega), if_neg hlab, if_neg (by omega), if_pos (by omega)]
                      rw [e]; exact PR1_idok_sibuy_tiok_qtok_leok_lagood_prok_inhigh i n s p q l t S w hL (by omega) (by omega) (by omega) (by omega) (by omega) (by omega) (by omega) (by omega) (by omega) hS hR (by omega) (by omega) (by omega) (by omega)
                · have hz := hprice
                  have e : rightL 1 i n s p q l t S = 23 := by unfold rightL; rw [if_neg (by omega), if_neg (by omega), if_neg (by omega), if_neg (by omega), if_neg (by omega), if_neg (by omega), if_neg hlab, if_pos (by omega)]
                  rw [e]; exact PR1_idok_sibuy_tiok_qtok_leok_lagood_prbad i n s p q l t S w hL (by omega) (by omega) (by omega) (by omega) (by omega) (by omega) (by omega) (by omega) (by omega) hS hR (by omega)
          · have hz := hleast
            have e : rightL 1 i n s p q l t S = 28 := by unfold rightL; rw [if_neg (by omega), if_neg (by omega), if_neg (by omega), if_neg (by omega), if_neg (by omega), if_pos (by omega)]
            rw [e]; exact PR1_idok_sibuy_tiok_qtok_lebad i n s p q l t S w hL (by omega) (by omega) (by omega) (by omega) (by omega) (by omega) (by omega) (by omega)
        · have hz := hqty
          have e : rightL 1 i n s p q l t S = 24 := by unfold rightL; rw [if_neg (by omega), if_neg (by omega), if_neg (by omega), if_neg (by omega), if_pos (by omega)]
          rw [e]; exact PR1_idok_sibuy_tiok_qtbad i n s p q l t S w hL (by omega) (by omega) (by omega) (by omega) (by omega) (by omega)
      · by_cases hltime : t < 1
        · have hz := hltime
          have e : rightL 1 i n s p q l t S = 27 := by unfold rightL; rw [if_neg (by omega), if_neg (by omega), if_neg (by omega), if_pos (by omega)]
          rw [e]; exact PR1_idok_sibuy_tilow i n s p q l t S w hL (by omega) (by omega) (by omega) (by omega)
        · have hz := hltime
          have e : rightL 1 i n s p q l t S = 27 := by unfold rightL; rw [if_neg (by omega), if_neg (by omega), if_neg (by omega), if_pos (by omega)]
          rw [e]; exact PR1_idok_sibuy_tihigh i n s p q l t S w hL (by omega) (by omega) (by omega) (by omega) (by omega)
    · by_cases hs2 : s = 2
      · have hz := hs2
        by_cases htime : 1 ≤ t ∧ t ≤ 3
        · have hz := htime
          by_cases hqty : 1 ≤ q ∧ q ≤ 1000000
          · have hz := hqty
            by_cases hleast : 0 ≤ l ∧ l ≤ q
            · have hz := hleast
              by_cases hS : S = []
              · have hlab : ¬ ((1 : Int) = 1 ∧ S ≠ [] ∧ rightB S = false) := fun h => h.2.1 hS
                by_cases hprice : -2000000 ≤ p ∧ p ≤ 2000000
                · have hz := hprice
                  by_cases hinst : 0 ≤ n ∧ n ≤ 255
                  · have hz := hinst
                    have e : rightL 1 i n s p q l t S = 0 := by unfold rightL; rw [if_neg (by omega), if_neg (by omega), if_neg (by omega), if_neg (by omega), if_neg (by omega), if_neg (by omega), if_neg hlab, if_neg (by omega), if_neg (by omega)]
                    rw [e]; exact PR1_idok_sisell_tiok_qtok_leok_lanone_prok_inok i n s p q l t S w hL (by omega) (by omega) (by omega) (by omega) (by omega) (by omega) (by omega) (by omega) (by omega) hS (by omega) (by omega) (by omega) (by omega)
                  · by_cases hlinst : n < 0
                    · have hz := hlinst
                      have e : rightL 1 i n s p q l t S = 20 := by unfold rightL; rw [if_neg (by omega), if_neg (by omega), if_neg (by omega), if_neg (by omega), if_neg (by omega), if_neg (by omega), if_neg hlab, if_neg (by omega), if_pos (by omega)]
                      rw [e]; exact PR1_idok_sisell_tiok_qtok_leok_lanone_prok_inlow i n s p q l t S w hL (by omega) (by omega) (by omega) (by omega) (by omega) (by omega) (by omega) (by omega) (by omega) hS (by omega) (by omega) (by omega)
                    · have hz := hlinst
                      have e : rightL 1 i n s p q l t S = 20 := by unfold rightL; rw [if_neg (by omega), if_neg (by omega), if_neg (by omega), if_neg (by omega), if_neg (by omega), if_neg (by omega), if_neg hlab, if_neg (by omega), if_pos (by omega)]
                      rw [e]; exact PR1_idok_sisell_tiok_qtok_leok_lanone_prok_inhigh i n s p q l t S w hL (by omega) (by omega) (by omega) (by omega) (by omega) (by omega) (by omega) (by omega) (by omega) hS (by omega) (by omega) (by omega) (by omega)
                · have hz := hprice
                  have e : rightL 1 i n s p q l t S = 23 := by unfold rightL; rw [if_neg (by omega), if_neg (by omega), if_neg (by omega), if_neg (by omega), if_neg (by omega), if_neg (by omega), if_neg hlab, if_pos (by omega)]
                  rw [e]; exact PR1_idok_sisell_tiok_qtok_leok_lanone_prbad i n s p q l t S w hL (by omega) (by omega) (by omega) (by omega) (by omega) (by omega) (by omega) (by omega) (by omega) hS (by omega)
              · cases hR : rightB S
                · have hz := hR
                  have e : rightL 1 i n s p q l t S = 29 := by unfold rightL; rw [if_neg (by omega), if_neg (by omega), if_neg (by omega), if_neg (by omega), if_neg (by omega), if_neg (by omega), if_pos ⟨rfl, hS, hR⟩]
                  rw [e]; exact PR1_idok_sisell_tiok_qtok_leok_labad i n s p q l t S w hL (by omega) (by omega) (by omega) (by omega) (by omega) (by omega) (by omega) (by omega) (by omega) hS hR
                · have hlab : ¬ ((1 : Int) = 1 ∧ S ≠ [] ∧ rightB S = false) := fun h => by rw [hR] at h; cases h.2.2
                  by_cases hprice : -2000000 ≤ p ∧ p ≤ 2000000
                  · have hz := hprice
                    by_cases hinst : 0 ≤ n ∧ n ≤ 255
                    · have hz := hinst
                      have e : rightL 1 i n s p q l t S = 0 := by unfold rightL; rw [if_neg (by omega), if_neg (by omega), if_neg (by omega), if_neg (by omega), if_neg (by omega), if_neg (by omega), if_neg hlab, if_neg (by omega), if_neg (by omega)]
                      rw [e]; exact PR1_idok_sisell_tiok_qtok_leok_lagood_prok_inok i n s p q l t S w hL (by omega) (by omega) (by omega) (by omega) (by omega) (by omega) (by omega) (by omega) (by omega) hS hR (by omega) (by omega) (by omega) (by omega)
                    · by_cases hlinst : n < 0
                      · have hz := hlinst
                        have e : rightL 1 i n s p q l t S = 20 := by unfold rightL; rw [if_neg (by omega), if_neg (by omega), if_neg (by omega), if_neg (by omega), if_neg (by omega), if_neg (by omega), if_neg hlab, if_neg (by omega), if_pos (by omega)]
                        rw [e]; exact PR1_idok_sisell_tiok_qtok_leok_lagood_prok_inlow i n s p q l t S w hL (by omega) (by omega) (by omega) (by omega) (by omega) (by omega) (by omega) (by omega) (by omega) hS hR (by omega) (by omega) (by omega)
                      · have hz := hlinst
                        have e : rightL 1 i n s p q l t S = 20 := by unfold rightL; rw [if_neg (by omega), if_neg (by omega), if_neg (by omega), if_neg (by omega), if_neg (by omega), if_neg (by omega), if_neg hlab, if_neg (by omega), if_pos (by omega)]
                        rw [e]; exact PR1_idok_sisell_tiok_qtok_leok_lagood_prok_inhigh i n s p q l t S w hL (by omega) (by omega) (by omega) (by omega) (by omega) (by omega) (by omega) (by omega) (by omega) hS hR (by omega) (by omega) (by omega) (by omega)
                  · have hz := hprice
                    have e : rightL 1 i n s p q l t S = 23 := by unfold rightL; rw [if_neg (by omega), if_neg (by omega), if_neg (by omega), if_neg (by omega), if_neg (by omega), if_neg (by omega), if_neg hlab, if_pos (by omega)]
                    rw [e]; exact PR1_idok_sisell_tiok_qtok_leok_lagood_prbad i n s p q l t S w hL (by omega) (by omega) (by omega) (by omega) (by omega) (by omega) (by omega) (by omega) (by omega) hS hR (by omega)
            · have hz := hleast
              have e : rightL 1 i n s p q l t S = 28 := by unfold rightL; rw [if_neg (by omega), if_neg (by omega), if_neg (by omega), if_neg (by omega), if_neg (by omega), if_pos (by omega)]
              rw [e]; exact PR1_idok_sisell_tiok_qtok_lebad i n s p q l t S w hL (by omega) (by omega) (by omega) (by omega) (by omega) (by omega) (by omega) (by omega)
          · have hz := hqty
            have e : rightL 1 i n s p q l t S = 24 := by unfold rightL; rw [if_neg (by omega), if_neg (by omega), if_neg (by omega), if_neg (by omega), if_pos (by omega)]
            rw [e]; exact PR1_idok_sisell_tiok_qtbad i n s p q l t S w hL (by omega) (by omega) (by omega) (by omega) (by omega) (by omega)
        · by_cases hltime : t < 1
          · have hz := hltime
            have e : rightL 1 i n s p q l t S = 27 := by unfold rightL; rw [if_neg (by omega), if_neg (by omega), if_neg (by omega), if_pos (by omega)]
            rw [e]; exact PR1_idok_sisell_tilow i n s p q l t S w hL (by omega) (by omega) (by omega) (by omega)
          · have hz := hltime
            have e : rightL 1 i n s p q l t S = 27 := by unfold rightL; rw [if_neg (by omega), if_neg (by omega), if_neg (by omega), if_pos (by omega)]
            rw [e]; exact PR1_idok_sisell_tihigh i n s p q l t S w hL (by omega) (by omega) (by omega) (by omega) (by omega)
      · have hz := hs2
        have e : rightL 1 i n s p q l t S = 21 := by unfold rightL; rw [if_neg (by omega), if_neg (by omega), if_pos (by omega)]
        rw [e]; exact PR1_idok_sibad i n s p q l t S w hL (by omega) (by omega) (by omega) (by omega)
  · have hz := hid
    have e : rightL 1 i n s p q l t S = 1 := by unfold rightL; rw [if_neg (by omega), if_pos (by omega)]
    rw [e]; exact PR1_idbad i n s p q l t S w hL (by omega)

theorem PR2 (i n s p q l t : Int) (S : List UInt8) (w : World) (hL : True) :
    Calls Try.prog 12 #[.agg #[.int .i64 2, .int .i64 i, .int .i64 n, .int .i64 s, .int .i64 p, .int .i64 q, .int .i64 l, .int .i64 t, .string (str S)]] w fun e w' => e = .returned (.int .i64 (rightL 2 i n s p q l t S)) ∧ Below w.heap.size w w' := by
  by_cases hid : 1 ≤ i ∧ i ≤ 1099511627776
  · have hz := hid
    have e : rightL 2 i n s p q l t S = 0 := by unfold rightL; rw [if_neg (by omega), if_neg (by omega), if_neg (by omega), if_neg (by omega), if_neg (by omega), if_neg (by omega), if_neg (fun h => by have := h.1; omega), if_neg (by omega), if_neg (by omega)]
    rw [e]; exact PR2_idok i n s p q l t S w hL (by omega) (by omega)
  · have hz := hid
    have e : rightL 2 i n s p q l t S = 1 := by unfold rightL; rw [if_neg (by omega), if_pos (by omega)]
    rw [e]; exact PR2_idbad i n s p q l t S w hL (by omega)

theorem PR3 (i n s p q l t : Int) (S : List UInt8) (w : World) (hL : True) :
    Calls Try.prog 12 #[.agg #[.int .i64 3, .int .i64 i, .int .i64 n, .int .i64 s, .int .i64 p, .int .i64 q, .int .i64 l, .int .i64 t, .string (str S)]] w fun e w' => e = .returned (.int .i64 (rightL 3 i n s p q l t S)) ∧ Below w.heap.size w w' := by
  by_cases hid : 1 ≤ i ∧ i ≤ 1099511627776
  · have hz := hid
    by_cases hqty : 1 ≤ q ∧ q ≤ 1000000
    · have hz := hqty
      have e : rightL 3 i n s p q l t S = 0 := by unfold rightL; rw [if_neg (by omega), if_neg (by omega), if_neg (by omega), if_neg (by omega), if_neg (by omega), if_neg (by omega), if_neg (fun h => by have := h.1; omega), if_neg (by omega), if_neg (by omega)]
      rw [e]; exact PR3_idok_qtok i n s p q l t S w hL (by omega) (by omega) (by omega) (by omega)
    · have hz := hqty
      have e : rightL 3 i n s p q l t S = 24 := by unfold rightL; rw [if_neg (by omega), if_neg (by omega), if_neg (by omega), if_neg (by omega), if_pos (by omega)]
      rw [e]; exact PR3_idok_qtbad i n s p q l t S w hL (by omega) (by omega) (by omega)
  · have hz := hid
    have e : rightL 3 i n s p q l t S = 1 := by unfold rightL; rw [if_neg (by omega), if_pos (by omega)]
    rw [e]; exact PR3_idbad i n s p q l t S w hL (by omega)

theorem PR4 (i n s p q l t : Int) (S : List UInt8) (w : World) (hL : True) :
    Calls Try.prog 12 #[.agg #[.int .i64 4, .int .i64 i, .int .i64 n, .int .i64 s, .int .i64 p, .int .i64 q, .int .i64 l, .int .i64 t, .string (str S)]] w fun e w' => e = .returned (.int .i64 (rightL 4 i n s p q l t S)) ∧ Below w.heap.size w w' := by
  by_cases hid : 1 ≤ i ∧ i ≤ 1099511627776
  · have hz := hid
    by_cases hqty : 1 ≤ q ∧ q ≤ 1000000
    · have hz := hqty
      by_cases hprice : -2000000 ≤ p ∧ p ≤ 2000000
      · have hz := hprice
        have e : rightL 4 i n s p q l t S = 0 := by unfold rightL; rw [if_neg (by omega), if_neg (by omega), if_neg (by omega), if_neg (by omega), if_neg (by omega), if_neg (by omega), if_neg (fun h => by have := h.1; omega), if_neg (by omega), if_neg (by omega)]
        rw [e]; exact PR4_idok_qtok_prok i n s p q l t S w hL (by omega) (by omega) (by omega) (by omega) (by omega) (by omega)
      · have hz := hprice
        have e : rightL 4 i n s p q l t S = 23 := by unfold rightL; rw [if_neg (by omega), if_neg (by omega), if_neg (by omega), if_neg (by omega), if_neg (by omega), if_neg (by omega), if_neg (fun h => by have := h.1; omega), if_pos (by omega)]
        rw [e]; exact PR4_idok_qtok_prbad i n s p q l t S w hL (by omega) (by omega) (by omega) (by omega) (by omega)
    · have hz := hqty
      have e : rightL 4 i n s p q l t S = 24 := by unfold rightL; rw [if_neg (by omega), if_neg (by omega), if_neg (by omega), if_neg (by omega), if_pos (by omega)]
      rw [e]; exact PR4_idok_qtbad i n s p q l t S w hL (by omega) (by omega) (by omega)
  · have hz := hid
    have e : rightL 4 i n s p q l t S = 1 := by unfold rightL; rw [if_neg (by omega), if_pos (by omega)]
    rw [e]; exact PR4_idbad i n s p q l t S w hL (by omega)

set_option maxRecDepth 100000 in
set_option maxHeartbeats 1000000 in
theorem PR0_none (k i n s p q l t : Int) (S : List UInt8) (w : World) (h : k < 1 ∨ 4 < k) :
    Calls Try.prog 12 #[.agg #[.int .i64 k, .int .i64 i, .int .i64 n, .int .i64 s, .int .i64 p, .int .i64 q, .int .i64 l, .int .i64 t, .string (str S)]] w fun e w' => e = .returned (.int .i64 31) ∧ Below w.heap.size w w' := by
  go_enter Try.func12, Try.ntmps12
  go_wp2_with fail
  refine (IsKind_no k _ h).mono ?_
  rintro e w1 ⟨rfl, rfl⟩
  go_wp2_with fail
  go_ret
  exact ⟨rfl, (Below.refl _ w).alloc (Nat.le_refl _) _⟩
theorem PRight_any (c : C) (w : World) (h : c.k = 1 → c.S.length ≤ 140737488355328) :
    Calls Try.prog 12 #[c.val] w fun e w' => e = .returned (.int .i64 c.right) ∧ Below w.heap.size w w' := by
  obtain ⟨k, i, n, s, p, q, l, t, S⟩ := c
  simp only at h
  show Calls Try.prog 12 #[.agg #[.int .i64 k, .int .i64 i, .int .i64 n, .int .i64 s, .int .i64 p, .int .i64 q, .int .i64 l, .int .i64 t, .string (str S)]] w fun e w' => e = .returned (.int .i64 (rightL k i n s p q l t S)) ∧ Below w.heap.size w w'
  by_cases h0 : k < 1 ∨ 4 < k
  · have e : rightL k i n s p q l t S = 31 := by unfold rightL; rw [if_pos h0]
    rw [e]
    exact PR0_none k i n s p q l t S w h0
  · have h1 : k = 1 ∨ k = 2 ∨ k = 3 ∨ k = 4 := by omega
    rcases h1 with rfl | rfl | rfl | rfl
    · exact PR1 i n s p q l t S w (h rfl)
    · exact PR2 i n s p q l t S w trivial
    · exact PR3 i n s p q l t S w trivial
    · exact PR4 i n s p q l t S w trivial
end Go.Proofs.Ytdbaphmhfoajgaa
