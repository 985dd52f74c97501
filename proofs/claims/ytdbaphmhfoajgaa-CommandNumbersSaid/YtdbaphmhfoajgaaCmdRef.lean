/-
  Contract: Right, of the document.
-/
import Derived.Test.YtdbaphmhfoajgaaCmdRef1
import Derived.Test.YtdbaphmhfoajgaaCmdRef2
import Derived.Test.YtdbaphmhfoajgaaCmdRef3
namespace Go.Proofs.Ytdbaphmhfoajgaa
open Go.RowKit
set_option linter.unusedVariables false
set_option linter.unusedSimpArgs false

theorem RR1 (i n s p q l t : Int) (S : List UInt8) (w : World) (hL : S.length ≤ 140737488355328) :
    Calls Try.prog 13 #[.agg #[.int .i64 1, .int .i64 i, .int .i64 n, .int .i64 s, .int .i64 p, .int .i64 q, .int .i64 l, .int .i64 t, .string (str S)]] w fun e w' => e = .returned (.int .i64 (rightL 1 i n s p q l t S)) ∧ Below w.heap.size w w' := by
  by_cases hid : 1 ≤ i ∧ i ≤ 1099511627776
  · have hz := hid
    by_cases hs1 : s = 1
    · have hz := hs1
      by_cases htime : 1 ≤ t ∧ t ≤ 3
      · have hz := htime
        by_cases hqty : 1 ≤ q ∧ q ≤ 1000000
        · have hz := hqty
          by_cases hleast : 0 ≤ l ∧ l ≤ q
          · have hz := hleast
            by_cases hS : S = []
            · have hlab : ¬ ((1 : Int) = 1 ∧ S ≠ [] ∧ rightB S = false) := fun h => h.2.1 hS
              by_cases hprice : -2000000 ≤ p ∧ p ≤ 2000000
              · have hz := hprice
                by_cases hinst : 0 ≤ n ∧ n ≤ 255
                · have hz := hinst
                  have e : rightL 1 i n s p q l t S = 0 := by unfold rightL; rw [if_neg (by omega), if_neg (by omega), if_neg (by omega), if_neg (by omega), if_neg (by omega), if_neg (by omega), if_neg hlab, if_neg (by omega), if_neg (by omega)]
                  rw [e]; exact RR1_idok_sibuy_tiok_qtok_leok_lanone_prok_inok i n s p q l t S w hL (by omega) (by omega) (by omega) (by omega) (by omega) (by omega) (by omega) (by omega) (by omega) hS (by omega) (by omega) (by omega) (by omega)
                · by_cases hlinst : n < 0
                  · have hz := hlinst
                    have e : rightL 1 i n s p q l t S = 20 := by unfold rightL; rw [if_neg (by omega), if_neg (by omega), if_neg (by omega), if_neg (by omega), if_neg (by omega), if_neg (by omega), if_neg hlab, if_neg (by omega), if_pos (by omega)]
                    rw [e]; exact RR1_idok_sibuy_tiok_qtok_leok_lanone_prok_inlow i n s p q l t S w hL (by omega) (by omega) (by omega) (by omega) (by omega) (by omega) (by omega) (by omega) (by omega) hS (by omega) (by omega) (by omega)
                  · have hz := hlinst
                    have e : rightL 1 i n s p q l t S = 20 := by unfold rightL; rw [if_neg (by omega), if_neg (by omega), if_neg (by omega), if_neg (by omega), if_neg (by omega), if_neg (by omega), if_neg hlab, if_neg (by omega), if_pos (by omega)]
                    rw [e]; exact RR1_idok_sibuy_tiok_qtok_leok_lanone_prok_inhigh i n s p q l t S w hL (by omega) (by omega) (by omega) (by omega) (by omega) (by omega) (by omega) (by omega) (by omega) hS (by omega) (by omega) (by omega) (by omega)
              · by_cases hlprice : p < -2000000
                · have hz := hlprice
                  have e : rightL 1 i n s p q l t S = 23 := by unfold rightL; rw [if_neg (by omega), if_neg (by omega), if_neg (by omega), if_neg (by omega), if_neg (by omega), if_neg (by omega), if_neg hlab, if_pos (by omega)]
                  rw [e]; exact RR1_idok_sibuy_tiok_qtok_leok_lanone_prlow i n s p q l t S w hL (by omega) (by omega) (by omega) (by omega) (by omega) (by omega) (by omega) (by omega) (by omega) hS (by omega)
                · have hz := hlprice
                  have e : rightL 1 i n s p q l t S = 23 := by unfold rightL; rw [if_neg (by omega), if_neg (by omega), if_neg (by omega), if_neg (by omega), if_neg (by omega), if_neg (by omega), if_neg hlab, if_pos (by omega)]
                  rw [e]; exact RR1_idok_sibuy_tiok_qtok_leok_lanone_prhigh i n s p q l t S w hL (by omega) (by omega) (by omega) (by omega) (by omega) (by omega) (by omega) (by omega) (by omega) hS (by omega) (by omega)
            · cases hR : rightB S
              · have hz := hR
                have e : rightL 1 i n s p q l t S = 29 := by unfold rightL; rw [if_neg (by omega), if_neg (by omega), if_neg (by omega), if_neg (by omega), if_neg (by omega), if_neg (by omega), if_pos ⟨rfl, hS, hR⟩]
                rw [e]; exact RR1_idok_sibuy_tiok_qtok_leok_labad i n s p q l t S w hL (by omega) (by omega) (by omega) (by omega) (by omega) (by omega) (by omega) (by omega) (by omega) hS hR
              · have hlab : ¬ ((1 : Int) = 1 ∧ S ≠ [] ∧ rightB S = false) := fun h => by rw [hR] at h; cases h.2.2
                by_cases hprice : -2000000 ≤ p ∧ p ≤ 2000000
                · have hz := hprice
                  by_cases hinst : 0 ≤ n ∧ n ≤ 255
                  · have hz := hinst
                    have e : rightL 1 i n s p q l t S = 0 := by unfold rightL; rw [if_neg (by omega), if_neg (by omega), if_neg (by omega), if_neg (by omega), if_neg (by omega), if_neg (by omega), if_neg hlab, if_neg (by omega), if_neg (by omega)]
                    rw [e]; exact RR1_idok_sibuy_tiok_qtok_leok_lagood_prok_inok i n s p q l t S w hL (by omega) (by omega) (by omega) (by omega) (by omega) (by omega) (by omega) (by omega) (by omega) hS hR (by omega) (by omega) (by omega) (by omega)
                  · by_cases hlinst : n < 0
                    · have hz := hlinst
                      have e : rightL 1 i n s p q l t S = 20 := by unfold rightL; rw [if_neg (by omega), if_neg (by omega), if_neg (by omega), if_neg (by omega), if_neg (by omega), if_neg (by omega), if_neg hlab, if_neg (by omega), if_pos (by omega)]
                      rw [e]; exact RR1_idok_sibuy_tiok_qtok_leok_lagood_prok_inlow i n s p q l t S w hL (by omega) (by omega) (by omega) (by omega) (by omega) (by omega) (by omega) (by omega) (by omega) hS hR (by omega) (by omega) (by omega)
                    · have hz := hlinst
                      have e : rightL 1 i n s p q l t S = 20 := by unfold rightL; rw [if_neg (by omega), if_neg (by omega), if_neg (by omega), if_neg (by omega), if_neg (by omega), if_neg (by omega), if_neg hlab, if_neg (by omega), if_pos (by omega)]
                      rw [e]; exact RR1_idok_sibuy_tiok_qtok_leok_lagood_prok_inhigh i n s p q l t S w hL (by omega) (by omega) (by omega) (by omega) (by omega) (by omega) (by omega) (by omega) (by omega) hS hR (by omega) (by omega) (by omega) (by omega)
                · by_cases hlprice : p < -2000000
                  · have hz := hlprice
                    have e : rightL 1 i n s p q l t S = 23 := by unfold rightL; rw [if_neg (by omega), if_neg (by omega), if_neg (by omega), if_neg (by omega), if_neg (by omega), if_neg (by omega), if_neg hlab, if_pos (by omega)]
                    rw [e]; exact RR1_idok_sibuy_tiok_qtok_leok_lagood_prlow i n s p q l t S w hL (by omega) (by omega) (by omega) (by omega) (by omega) (by omega) (by omega) (by omega) (by omega) hS hR (by omega)
                  · have hz := hlprice
                    have e : rightL 1 i n s p q l t S = 23 := by unfold rightL; rw [if_neg (by omega), if_neg (by omega), if_neg (by omega), if_neg (by omega), if_neg (by omega), if_neg (by omega), if_neg hlab, if_pos (by omega)]
                    rw [e]; exact RR1_idok_sibuy_tiok_qtok_leok_lagood_prhigh i n s p q l t S w hL (by omega) (by omega) (by omega) (by omega) (by omega) (by omega) (by omega) (by omega) (by omega) hS hR (by omega) (by omega)
          · by_cases hlleast : l < 0
            · have hz := hlleast
              have e : rightL 1 i n s p q l t S = 28 := by unfold rightL; rw [if_neg (by omega), if_neg (by omega), if_neg (by omega), if_neg (by omega), if_neg (by omega), if_pos (by omega)]
              rw [e]; exact RR1_idok_sibuy_tiok_qtok_lelow i n s p q l t S w hL (by omega) (by omega) (by omega) (by omega) (by omega) (by omega) (by omega) (by omega)
            · have hz := hlleast
              have e : rightL 1 i n s p q l t S = 28 := by unfold rightL; rw [if_neg (by omega), if_neg (by omega), if_neg (by omega), if_neg (by omega), if_neg (by omega), if_pos (by omega)]
              rw [e]; exact RR1_idok_sibuy_tiok_qtok_lehigh i n s p q l t S w hL (by omega) (by omega) (by omega) (by omega) (by omega) (by omega) (by omega) (by omega) (by omega)
        · by_cases hlqty : q < 1
          · have hz := hlqty
            have e : rightL 1 i n s p q l t S = 24 := by unfold rightL; rw [if_neg (by omega), if_neg (by omega), if_neg (by omega), if_neg (by omega), if_pos (by omega)]
            rw [e]; exact RR1_idok_sibuy_tiok_qtlow i n s p q l t S w hL (by omega) (by omega) (by omega) (by omega) (by omega) (by omega)
          · have hz := hlqty
            have e : rightL 1 i n s p q l t S = 24 := by unfold rightL; rw [if_neg (by omega), if_neg (by omega), if_neg (by omega), if_neg (by omega), if_pos (by omega)]
            rw [e]; exact RR1_idok_sibuy_tiok_qthigh i n s p q l t S w hL (by omega) (by omega) (by omega) (by omega) (by omega) (by omega) (by omega)
      · by_cases hltime : t < 1
        · have hz := hltime
          have e : rightL 1 i n s p q l t S = 27 := by unfold rightL; rw [if_neg (by omega), if_neg (by omega), if_neg (by omega), if_pos (by omega)]
          rw [e]; exact RR1_idok_sibuy_tilow i n s p q l t S w hL (by omega) (by omega) (by omega) (by omega)
        · have hz := hltime
          have e : rightL 1 i n s p q l t S = 27 := by unfold rightL; rw [if_neg (by omega), if_neg (by omega), if_neg (by omega), if_pos (by omega)]
          rw [e]; exact RR1_idok_sibuy_tihigh i n s p q l t S w hL (by omega) (by omega) (by omega) (by omega) (by omega)
    · by_cases hs2 : s = 2
      · have hz := hs2
        by_cases htime : 1 ≤ t ∧ t ≤ 3
        · have hz := htime
          by_cases hqty : 1 ≤ q ∧ q ≤ 1000000
          · have hz := hqty
            by_cases hleast : 0 ≤ l ∧ l ≤ q
            · have hz := hleast
              by_cases hS : S = []
              · have hlab : ¬ ((1 : Int) = 1 ∧ S ≠ [] ∧ rightB S = false) := fun h => h.2.1 hS
                by_cases hprice : -2000000 ≤ p ∧ p ≤ 2000000
                · have hz := hprice
                  by_cases hinst : 0 ≤ n ∧ n ≤ 255
                  · have hz := hinst
                    have e : rightL 1 i n s p q l t S = 0 := by unfold rightL; rw [if_neg (by omega), if_neg (by omega), if_neg (by omega), if_neg (by omega), if_neg (by omega), if_neg (by omega), if_neg hlab, if_neg (by omega), if_neg (by omega)]
                    rw [e]; exact RR1_idok_sisell_tiok_qtok_leok_lanone_prok_inok i n s p q l t S w hL (by omega) (by omega) (by omega) (by omega) (by omega) (by omega) (by omega) (by omega) (by omega) hS (by omega) (by omega) (by omega) (by omega)
                  · by_cases hlinst : n < 0
                    · have hz := hlinst
                      have e : rightL 1 i n s p q l t S = 20 := by unfold rightL; rw [if_neg (by omega), if_neg (by omega), if_neg (by omega), if_neg (by omega), if_neg (by omega), if_neg (by omega), if_neg hlab, if_neg (by omega), if_pos (by omega)]
                      rw [e]; exact RR1_idok_sisell_tiok_qtok_leok_lanone_prok_inlow i n s p q l t S w hL (by omega) (by omega) (by omega) (by omega) (by omega) (by omega) (by omega) (by omega) (by omega) hS (by omega) (by omega) (by omega)
                    · have hz := hlinst
                      have e : rightL 1 i n s p q l t S = 20 := by unfold rightL; rw [if_neg (by omega), if_neg (by omega), if_neg (by omega), if_neg (by omega), if_neg (by omega), if_neg (by omega), if_neg hlab, if_neg (by omega), if_pos (by omega)]
                      rw [e]; exact RR1_idok_sisell_tiok_qtok_leok_lanone_prok_inhigh i n s p q l t S w hL (by omega) (by omega) (by omega) (by omega) (by omega) (by omega) (by omega) (by omega) (by omega) hS (by omega) (by omega) (by omega) (by omega)
                · by_cases hlprice : p < -2000000
                  · have hz := hlprice
                    have e : rightL 1 i n s p q l t S = 23 := by unfold rightL; rw [if_neg (by omega), if_neg (by omega), if_neg (by omega), if_neg (by omega), if_neg (by omega), if_neg (by omega), if_neg hlab, if_pos (by omega)]
                    rw [e]; exact RR1_idok_sisell_tiok_qtok_leok_lanone_prlow i n s p q l t S w hL (by omega) (by omega) (by omega) (by omega) (by omega) (by omega) (by omega) (by omega) (by omega) hS (by omega)
                  · have hz := hlprice
                    have e : rightL 1 i n s p q l t S = 23 := by unfold rightL; rw [if_neg (by omega), if_neg (by omega), if_neg (by omega), if_neg (by omega), if_neg (by omega), if_neg (by omega), if_neg hlab, if_pos (by omega)]
                    rw [e]; exact RR1_idok_sisell_tiok_qtok_leok_lanone_prhigh i n s p q l t S w hL (by omega) (by omega) (by omega) (by omega) (by omega) (by omega) (by omega) (by omega) (by omega) hS (by omega) (by omega)
              · cases hR : rightB S
                · have hz := hR
                  have e : rightL 1 i n s p q l t S = 29 := by unfold rightL; rw [if_neg (by omega), if_neg (by omega), if_neg (by omega), if_neg (by omega), if_neg (by omega), if_neg (by omega), if_pos ⟨rfl, hS, hR⟩]
                  rw [e]; exact RR1_idok_sisell_tiok_qtok_leok_labad i n s p q l t S w hL (by omega) (by omega) (by omega) (by omega) (by omega) (by omega) (by omega) (by omega) (by omega) hS hR
                · have hlab : ¬ ((1 : Int) = 1 ∧ S ≠ [] ∧ rightB S = false) := fun h => by rw [hR] at h; cases h.2.2
                  by_cases hprice : -2000000 ≤ p ∧ p ≤ 2000000
                  · have hz := hprice
                    by_cases hinst : 0 ≤ n ∧ n ≤ 255
                    · have hz := hinst
                      have e : rightL 1 i n s p q l t S = 0 := by unfold rightL; rw [if_neg (by omega), if_neg (by omega), if_neg (by omega), if_neg (by omega), if_neg (by omega), if_neg (by omega), if_neg hlab, if_neg (by omega), if_neg (by omega)]
                      rw [e]; exact RR1_idok_sisell_tiok_qtok_leok_lagood_prok_inok i n s p q l t S w hL (by omega) (by omega) (by omega) (by omega) (by omega) (by omega) (by omega) (by omega) (by omega) hS hR (by omega) (by omega) (by omega) (by omega)
                    · by_cases hlinst : n < 0
                      · have hz := hlinst
                        have e : rightL 1 i n s p q l t S = 20 := by unfold rightL; rw [if_neg (by omega), if_neg (by omega), if_neg (by omega), if_neg (by omega), if_neg (by omega), if_neg (by omega), if_neg hlab, if_neg (by omega), if_pos (by omega)]
                        rw [e]; exact RR1_idok_sisell_tiok_qtok_leok_lagood_prok_inlow i n s p q l t S w hL (by omega) (by omega) (by omega) (by omega) (by omega) (by omega) (by omega) (by omega) (by omega) hS hR (by omega) (by omega) (by omega)
                      · have hz := hlinst
                        have e : rightL 1 i n s p q l t S = 20 := by unfold rightL; rw [if_neg (by omega), if_neg (by omega), if_neg (by omega), if_neg (by omega), if_neg (by omega), if_neg (by omega), if_neg hlab, if_neg (by omega), if_pos (by omega)]
                        rw [e]; exact RR1_idok_sisell_tiok_qtok_leok_lagood_prok_inhigh i n s p q l t S w hL (by omega) (by omega) (by omega) (by omega) (by omega) (by omega) (by omega) (by omega) (by omega) hS hR (by omega) (by omega) (by omega) (by omega)
                  · by_cases hlprice : p < -2000000
                    · have hz := hlprice
                      have e : rightL 1 i n s p q l t S = 23 := by unfold rightL; rw [if_neg (by omega), if_neg (by omega), if_neg (by omega), if_neg (by omega), if_neg (by omega), if_neg (by omega), if_neg hlab, if_pos (by omega)]
                      rw [e]; exact RR1_idok_sisell_tiok_qtok_leok_lagood_prlow i n s p q l t S w hL (by omega) (by omega) (by omega) (by omega) (by omega) (by omega) (by omega) (by omega) (by omega) hS hR (by omega)
                    · have hz := hlprice
                      have e : rightL 1 i n s p q l t S = 23 := by unfold rightL; rw [if_neg (by omega), if_neg (by omega), if_neg (by omega), if_neg (by omega), if_neg (by omega), if_neg (by omega), if_neg hlab, if_pos (by omega)]
                      rw [e]; exact RR1_idok_sisell_tiok_qtok_leok_lagood_prhigh i n s p q l t S w hL (by omega) (by omega) (by omega) (by omega) (by omega) (by omega) (by omega) (by omega) (by omega) hS hR (by omega) (by omega)
            · by_cases hlleast : l < 0
              · have hz := hlleast
                have e : rightL 1 i n s p q l t S = 28 := by unfold rightL; rw [if_neg (by omega), if_neg (by omega), if_neg (by omega), if_neg (by omega), if_neg (by omega), if_pos (by omega)]
                rw [e]; exact RR1_idok_sisell_tiok_qtok_lelow i n s p q l t S w hL (by omega) (by omega) (by omega) (by omega) (by omega) (by omega) (by omega) (by omega)
              · have hz := hlleast
                have e : rightL 1 i n s p q l t S = 28 := by unfold rightL; rw [if_neg (by omega), if_neg (by omega), if_neg (by omega), if_neg (by omega), if_neg (by omega), if_pos (by omega)]
                rw [e]; exact RR1_idok_sisell_tiok_qtok_lehigh i n s p q l t S w hL (by omega) (by omega) (by omega) (by omega) (by omega) (by omega) (by omega) (by omega) (by omega)
          · by_cases hlqty : q < 1
            · have hz := hlqty
              have e : rightL 1 i n s p q l t S = 24 := by unfold rightL; rw [if_neg (by omega), if_neg (by omega), if_neg (by omega), if_neg (by omega), if_pos (by omega)]
              rw [e]; exact RR1_idok_sisell_tiok_qtlow i n s p q l t S w hL (by omega) (by omega) (by omega) (by omega) (by omega) (by omega)
            · have hz := hlqty
              have e : rightL 1 i n s p q l t S = 24 := by unfold rightL; rw [if_neg (by omega), if_neg (by omega), if_neg (by omega), if_neg (by omega), if_pos (by omega)]
              rw [e]; exact RR1_idok_sisell_tiok_qthigh i n s p q l t S w hL (by omega) (by omega) (by omega) (by omega) (by omega) (by omega) (by omega)
        · by_cases hltime : t < 1
          · have hz := hltime
            have e : rightL 1 i n s p q l t S = 27 := by unfold rightL; rw [if_neg (by omega), if_neg (by omega), if_neg (by omega), if_pos (by omega)]
            rw [e]; exact RR1_idok_sisell_tilow i n s p q l t S w hL (by omega) (by omega) (by omega) (by omega)
          · have hz := hltime
            have e : rightL 1 i n s p q l t S = 27 := by unfold rightL; rw [if_neg (by omega), if_neg (by omega), if_neg (by omega), if_pos (by omega)]
            rw [e]; exact RR1_idok_sisell_tihigh i n s p q l t S w hL (by omega) (by omega) (by omega) (by omega) (by omega)
      · have hz := hs2
        have e : rightL 1 i n s p q l t S = 21 := by unfold rightL; rw [if_neg (by omega), if_neg (by omega), if_pos (by omega)]
        rw [e]; exact RR1_idok_sibad i n s p q l t S w hL (by omega) (by omega) (by omega) (by omega)
  · by_cases hlid : i < 1
    · have hz := hlid
      have e : rightL 1 i n s p q l t S = 1 := by unfold rightL; rw [if_neg (by omega), if_pos (by omega)]
      rw [e]; exact RR1_idlow i n s p q l t S w hL (by omega)
    · have hz := hlid
      have e : rightL 1 i n s p q l t S = 1 := by unfold rightL; rw [if_neg (by omega), if_pos (by omega)]
      rw [e]; exact RR1_idhigh i n s p q l t S w hL (by omega) (by omega)

theorem RR2 (i n s p q l t : Int) (S : List UInt8) (w : World) (hL : True) :
    Calls Try.prog 13 #[.agg #[.int .i64 2, .int .i64 i, .int .i64 n, .int .i64 s, .int .i64 p, .int .i64 q, .int .i64 l, .int .i64 t, .string (str S)]] w fun e w' => e = .returned (.int .i64 (rightL 2 i n s p q l t S)) ∧ Below w.heap.size w w' := by
  by_cases hid : 1 ≤ i ∧ i ≤ 1099511627776
  · have hz := hid
    have e : rightL 2 i n s p q l t S = 0 := by unfold rightL; rw [if_neg (by omega), if_neg (by omega), if_neg (by omega), if_neg (by omega), if_neg (by omega), if_neg (by omega), if_neg (fun h => by have := h.1; omega), if_neg (by omega), if_neg (by omega)]
    rw [e]; exact RR2_idok i n s p q l t S w hL (by omega) (by omega)
  · by_cases hlid : i < 1
    · have hz := hlid
      have e : rightL 2 i n s p q l t S = 1 := by unfold rightL; rw [if_neg (by omega), if_pos (by omega)]
      rw [e]; exact RR2_idlow i n s p q l t S w hL (by omega)
    · have hz := hlid
      have e : rightL 2 i n s p q l t S = 1 := by unfold rightL; rw [if_neg (by omega), if_pos (by omega)]
      rw [e]; exact RR2_idhigh i n s p q l t S w hL (by omega) (by omega)

theorem RR3 (i n s p q l t : Int) (S : List UInt8) (w : World) (hL : True) :
    Calls Try.prog 13 #[.agg #[.int .i64 3, .int .i64 i, .int .i64 n, .int .i64 s, .int .i64 p, .int .i64 q, .int .i64 l, .int .i64 t, .string (str S)]] w fun e w' => e = .returned (.int .i64 (rightL 3 i n s p q l t S)) ∧ Below w.heap.size w w' := by
  by_cases hid : 1 ≤ i ∧ i ≤ 1099511627776
  · have hz := hid
    by_cases hqty : 1 ≤ q ∧ q ≤ 1000000
    · have hz := hqty
      have e : rightL 3 i n s p q l t S = 0 := by unfold rightL; rw [if_neg (by omega), if_neg (by omega), if_neg (by omega), if_neg (by omega), if_neg (by omega), if_neg (by omega), if_neg (fun h => by have := h.1; omega), if_neg (by omega), if_neg (by omega)]
      rw [e]; exact RR3_idok_qtok i n s p q l t S w hL (by omega) (by omega) (by omega) (by omega)
    · by_cases hlqty : q < 1
      · have hz := hlqty
        have e : rightL 3 i n s p q l t S = 24 := by unfold rightL; rw [if_neg (by omega), if_neg (by omega), if_neg (by omega), if_neg (by omega), if_pos (by omega)]
        rw [e]; exact RR3_idok_qtlow i n s p q l t S w hL (by omega) (by omega) (by omega)
      · have hz := hlqty
        have e : rightL 3 i n s p q l t S = 24 := by unfold rightL; rw [if_neg (by omega), if_neg (by omega), if_neg (by omega), if_neg (by omega), if_pos (by omega)]
        rw [e]; exact RR3_idok_qthigh i n s p q l t S w hL (by omega) (by omega) (by omega) (by omega)
  · by_cases hlid : i < 1
    · have hz := hlid
      have e : rightL 3 i n s p q l t S = 1 := by unfold rightL; rw [if_neg (by omega), if_pos (by omega)]
      rw [e]; exact RR3_idlow i n s p q l t S w hL (by omega)
    · have hz := hlid
      have e : rightL 3 i n s p q l t S = 1 := by unfold rightL; rw [if_neg (by omega), if_pos (by omega)]
      rw [e]; exact RR3_idhigh i n s p q l t S w hL (by omega) (by omega)

theorem RR4 (i n s p q l t : Int) (S : List UInt8) (w : World) (hL : True) :
    Calls Try.prog 13 #[.agg #[.int .i64 4, .int .i64 i, .int .i64 n, .int .i64 s, .int .i64 p, .int .i64 q, .int .i64 l, .int .i64 t, .string (str S)]] w fun e w' => e = .returned (.int .i64 (rightL 4 i n s p q l t S)) ∧ Below w.heap.size w w' := by
  by_cases hid : 1 ≤ i ∧ i ≤ 1099511627776
  · have hz := hid
    by_cases hqty : 1 ≤ q ∧ q ≤ 1000000
    · have hz := hqty
      by_cases hprice : -2000000 ≤ p ∧ p ≤ 2000000
      · have hz := hprice
        have e : rightL 4 i n s p q l t S = 0 := by unfold rightL; rw [if_neg (by omega), if_neg (by omega), if_neg (by omega), if_neg (by omega), if_neg (by omega), if_neg (by omega), if_neg (fun h => by have := h.1; omega), if_neg (by omega), if_neg (by omega)]
        rw [e]; exact RR4_idok_qtok_prok i n s p q l t S w hL (by omega) (by omega) (by omega) (by omega) (by omega) (by omega)
      · by_cases hlprice : p < -2000000
        · have hz := hlprice
          have e : rightL 4 i n s p q l t S = 23 := by unfold rightL; rw [if_neg (by omega), if_neg (by omega), if_neg (by omega), if_neg (by omega), if_neg (by omega), if_neg (by omega), if_neg (fun h => by have := h.1; omega), if_pos (by omega)]
          rw [e]; exact RR4_idok_qtok_prlow i n s p q l t S w hL (by omega) (by omega) (by omega) (by omega) (by omega)
        · have hz := hlprice
          have e : rightL 4 i n s p q l t S = 23 := by unfold rightL; rw [if_neg (by omega), if_neg (by omega), if_neg (by omega), if_neg (by omega), if_neg (by omega), if_neg (by omega), if_neg (fun h => by have := h.1; omega), if_pos (by omega)]
          rw [e]; exact RR4_idok_qtok_prhigh i n s p q l t S w hL (by omega) (by omega) (by omega) (by omega) (by omega) (by omega)
    · by_cases hlqty : q < 1
      · have hz := hlqty
        have e : rightL 4 i n s p q l t S = 24 := by unfold rightL; rw [if_neg (by omega), if_neg (by omega), if_neg (by omega), if_neg (by omega), if_pos (by omega)]
        rw [e]; exact RR4_idok_qtlow i n s p q l t S w hL (by omega) (by omega) (by omega)
      · have hz := hlqty
        have e : rightL 4 i n s p q l t S = 24 := by unfold rightL; rw [if_neg (by omega), if_neg (by omega), if_neg (by omega), if_neg (by omega), if_pos (by omega)]
        rw [e]; exact RR4_idok_qthigh i n s p q l t S w hL (by omega) (by omega) (by omega) (by omega)
  · by_cases hlid : i < 1
    · have hz := hlid
      have e : rightL 4 i n s p q l t S = 1 := by unfold rightL; rw [if_neg (by omega), if_pos (by omega)]
      rw [e]; exact RR4_idlow i n s p q l t S w hL (by omega)
    · have hz := hlid
      have e : rightL 4 i n s p q l t S = 1 := by unfold rightL; rw [if_neg (by omega), if_pos (by omega)]
      rw [e]; exact RR4_idhigh i n s p q l t S w hL (by omega) (by omega)

set_option maxRecDepth 100000 in
set_option maxHeartbeats 1000000 in
theorem RR0_low (k i n s p q l t : Int) (S : List UInt8) (w : World) (h : k < 1) :
    Calls Try.prog 13 #[.agg #[.int .i64 k, .int .i64 i, .int .i64 n, .int .i64 s, .int .i64 p, .int .i64 q, .int .i64 l, .int .i64 t, .string (str S)]] w fun e w' => e = .returned (.int .i64 31) ∧ Below w.heap.size w w' := by
  have d1 : decide (k < 1) = true := decide_eq_true (by omega)
  go_enter Try.func13, Try.ntmps13
  go_wp2_with fail
  go_ret
  exact ⟨rfl, (Below.refl _ w).alloc (Nat.le_refl _) _⟩
set_option maxRecDepth 100000 in
set_option maxHeartbeats 1000000 in
theorem RR0_high (k i n s p q l t : Int) (S : List UInt8) (w : World) (h0 : 1 ≤ k) (h : 4 < k) :
    Calls Try.prog 13 #[.agg #[.int .i64 k, .int .i64 i, .int .i64 n, .int .i64 s, .int .i64 p, .int .i64 q, .int .i64 l, .int .i64 t, .string (str S)]] w fun e w' => e = .returned (.int .i64 31) ∧ Below w.heap.size w w' := by
  have d1 : decide (k < 1) = false := decide_eq_false (by omega)
  have d2 : decide (4 < k) = true := decide_eq_true (by omega)
  go_enter Try.func13, Try.ntmps13
  go_wp2_with fail
  go_ret
  exact ⟨rfl, (Below.refl _ w).alloc (Nat.le_refl _) _⟩
theorem RRight_any (c : C) (w : World) (h : c.k = 1 → c.S.length ≤ 140737488355328) :
    Calls Try.prog 13 #[c.val] w fun e w' => e = .returned (.int .i64 c.right) ∧ Below w.heap.size w w' := by
  obtain ⟨k, i, n, s, p, q, l, t, S⟩ := c
  simp only at h
  show Calls Try.prog 13 #[.agg #[.int .i64 k, .int .i64 i, .int .i64 n, .int .i64 s, .int .i64 p, .int .i64 q, .int .i64 l, .int .i64 t, .string (str S)]] w fun e w' => e = .returned (.int .i64 (rightL k i n s p q l t S)) ∧ Below w.heap.size w w'
  by_cases h0 : k < 1 ∨ 4 < k
  · have e : rightL k i n s p q l t S = 31 := by unfold rightL; rw [if_pos h0]
    rw [e]
    by_cases h1 : k < 1
    · exact RR0_low k i n s p q l t S w h1
    · exact RR0_high k i n s p q l t S w (by omega) (by omega)
  · have h1 : k = 1 ∨ k = 2 ∨ k = 3 ∨ k = 4 := by omega
    rcases h1 with rfl | rfl | rfl | rfl
    · exact RR1 i n s p q l t S w (h rfl)
    · exact RR2 i n s p q l t S w trivial
    · exact RR3 i n s p q l t S w trivial
    · exact RR4 i n s p q l t S w trivial
end Go.Proofs.Ytdbaphmhfoajgaa
