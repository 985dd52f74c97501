/-
  Contract of the law package: alike.
-/
import Derived.Test.YtcfmnmknbebfnaaLvBoth
namespace Go.Proofs.Ytcfmnmknbebfnaa
open Go.RowKit
set_option linter.unusedVariables false
set_option linter.unusedSimpArgs false

theorem RA.head {B d : Nat} {G : Nat → Prop} {st : St} {w : World} (h : RA B d G st w) : ∃ A cap, w.cell? ⟨d, 1, none⟩ = some (.slice A st.Q.length cap) ∧ st.Q.length ≤ cap ∧ cap ≤ 9223372036854775807 := by
  obtain ⟨u, q, V, rfl, hR, hO, hB⟩ := h
  obtain ⟨c0, c1, f0, f1⟩ := hR.cells
  obtain ⟨A, cap, e, h1, h2⟩ := hR.slice
  rw [hR.len] at e h1
  exact ⟨A, cap, by rw [← e]; exact c1, h1, h2⟩
theorem below_of_drewN {B : Nat} {a w : World} (h : Below B a w) (q : Nat) : Below B a (w.drewN q) := ⟨h.os, h.tape, h.output, h.size, h.block⟩
set_option maxRecDepth 100000 in
set_option maxHeartbeats 4000000 in
theorem Alike_any (B c d : Nat) (F G : Nat → Prop) (st : St) (room : Int) (w : World) (h0 : Hid (Both B c d F G st w)) (hQ : st.Q.length ≤ 100000) (hr : I64 room) :
    Calls Try.prog 11 #[.pointer (some ⟨c, 0, none⟩), .pointer (some ⟨d, 0, none⟩), .int .i64 room] w fun e w' => e = .returned (.bool true) ∧ Below w.heap.size w w' := by
  have hQ2 : Hid (st.Q.length ≤ 1000000) := Lib.hid (by omega)
  have hok := Lib.hid h0.out.a.ok
  have hroom := Lib.hid h0.out.a.room
  obtain ⟨n, en⟩ : ∃ n, st.Q.length = n := ⟨_, rfl⟩
  rw [en] at hQ
  replace en := Lib.hid en
  have b0 : Hid (Below w.heap.size w w) := Lib.hid (Below.refl _ _)
  obtain ⟨r1, r2⟩ := hr
  go_enter Try.func11, Try.ntmps11
  go_wp2_with fail
  go_loopw [7] (fun q wr => ∃ j : Int, q = .int .i64 j ∧ -1 ≤ j ∧ j ≤ n + 1 ∧ Hid (Below w.heap.size w wr)) (fun q _ => (n + 1 - intOf q).toNat)
  case atStart => exact ⟨-1, rfl, by omega, by omega, b0⟩
  case round =>
    clear b0
    obtain ⟨j, rfl, hj1, hj2, hW⟩ := hrel
    have hB1 := Lib.hid (h0.out.below hW.out)
    obtain ⟨A0, cap0, x1, x2, x3⟩ := hB1.out.r.head
    rw [en.out] at x1 x2
    by_cases hlt : j ≤ n
    · have d1 : decide (j ≤ (n : Int)) = true := decide_eq_true hlt
      have HL := Lib.hid (List_any B c F st j wr (Lib.hid hB1.out.a) hQ2.out)
      have hlen : (listO st j).length ≤ 4096 := by have h1 := listO_short hok.out j; have h2 := hroom.out; omega
      have HT := Lib.hid (fun (W : World) (h : AR B c F st W) => Total_any B c F st j W (Lib.hid h) hQ2.out)
      have HC := Lib.hid (fun (W : World) (h : AR B c F st W) => Count_any B c F st j W (Lib.hid h) hQ2.out)
      have HRL := Lib.hid (fun (W : World) (h : RA B d G st W) => RList_any B d G st j W (Lib.hid h) hQ2.out)
      have HRT := Lib.hid (fun (W : World) (h : RA B d G st W) => RTotal_any B d G st j W (Lib.hid h) hQ2.out)
      obtain ⟨l, el⟩ : ∃ l, listO st j = l := ⟨_, rfl⟩
      rw [el] at HL HT HC HRL HRT hlen
      obtain ⟨nl, enl⟩ : ∃ n, l.length = n := ⟨_, rfl⟩
      rw [enl] at HC HRL hlen
      obtain ⟨T, eT⟩ : ∃ T, sumN l = T := ⟨_, rfl⟩
      rw [eT] at HT HRT
      replace enl := Lib.hid enl
      clear el eT
      go_wp2_with fail
      refine HL.out.mono ?_
      rintro e w1 ⟨v8, rfl, r8, b8⟩
      obtain ⟨A8, cap8, rfl, hH8, y1, y2, -⟩ := r8.slice
      rw [enl.out] at hH8 y1 ⊢
      have B1 := Lib.hid (below_up hW.out b8)
      replace hH8 := Lib.hid hH8
      have hB2 := Lib.hid (h0.out.below B1.out)
      clear r8 b8 HL x1
      go_wp2_with fail
      refine (HRL.out w1 hB2.out.r).mono ?_
      rintro e w1 ⟨⟨A9, cap9, rfl, hH9, y3, y4⟩, rfl⟩
      replace hH9 := Lib.hid hH9
      clear HRL
      go_wp2_with fail
      refine (HT.out _ hB2.out.a).mono ?_
      rintro e w2 ⟨rfl, rfl⟩
      go_wp2_with fail
      refine (HRT.out _ hB2.out.r).mono ?_
      rintro e w2 ⟨rfl, rfl⟩
      go_wp2_with fail
      refine (HC.out _ hB2.out.a).mono ?_
      rintro e w2 ⟨rfl, rfl⟩
      clear HT HRT HC
      go_wp2_with fail
      have b2 : Hid (Below w1.heap.size w1 w1) := Lib.hid (Below.refl _ _)
      go_loopw [10] (fun iv wr => ∃ i : Nat, iv = .int .i64 i ∧ i ≤ nl ∧ Hid (Below w1.heap.size w1 wr)) (fun iv _ => (nl - intOf iv).toNat)
      case atStart => exact ⟨0, rfl, by omega, b2⟩
      case round =>
        clear b2
        obtain ⟨i, rfl, hi, hV⟩ := hrel
        by_cases hil : i < nl
        · have d2 : decide (i < nl) = true := decide_eq_true hil
          obtain ⟨e, he⟩ : ∃ e, l[i]? = some e := ⟨_, List.getElem?_eq_getElem (by rw [enl.out]; exact hil)⟩
          obtain ⟨b, off, rfl, p0, p1, p2, p3⟩ := (hH8.out.below hV.out).2 i e he
          obtain ⟨b', off', rfl, q0, q1, q2, q3⟩ := (hH9.out.below hV.out).2 i e he
          obtain ⟨m, ii, nn, tt⟩ := e
          simp only at p0 p1 p2 p3 q0 q1 q2 q3
          clear he
          go_upto_region 11 with (fail)
          go_quiet (fail)
          have b3 : Hid (Below w1.heap.size w1 (wr.drewN nq)) := Lib.hid ((below_of_drewN hV.out nq))
          go_wp2_with fail
          go_roundw
          case rel => exact ⟨i + 1, by go_num, by omega, b3⟩
          case measure => simp [intOf]; omega
        · obtain rfl : i = nl := by omega
          have d2 : decide (i < i) = false := by simp
          have B2 := Lib.hid (below_up B1.out hV.out)
          go_wp2_with fail
          go_roundw
          case rel => exact ⟨j + 1, rfl, by omega, by omega, B2⟩
          case measure => simp [intOf]; omega
    · have hj3 : j = n + 1 := by omega
      have d1 : decide (j ≤ (n : Int)) = false := decide_eq_false hlt
      have b4 : Hid (Below w.heap.size w wr) := hW
      clear hj1 hj2 hW hB1 hj3
      go_wp2_with fail
      go_loopw [11] (fun q wr => ∃ j : Int, q = .int .i64 j ∧ -1 ≤ j ∧ j ≤ 60 ∧ Hid (Below w.heap.size w wr)) (fun q _ => (60 - intOf q).toNat)
      case atStart => exact ⟨-1, rfl, by omega, by omega, b4⟩
      case round =>
        clear b4 hlt d1 x1 x2 x3
        obtain ⟨j, rfl, hj1, hj2, hW⟩ := hrel
        by_cases hc : j ≤ room ∧ j < 60
        · have d1 : decide (j ≤ room) = true := decide_eq_true hc.1
          have d2 : decide (j < 60) = true := decide_eq_true hc.2
          have hj3 := hc.2
          have hB1 := Lib.hid (h0.out.below hW.out)
          have HG := Lib.hid (fun (W : World) (h : AR B c F st W) => Get_any B c F st j W (Lib.hid h))
          have HRG := Lib.hid (fun (W : World) (h : RA B d G st W) => RGet_any B d G st j W (Lib.hid h) hQ2.out)
          obtain ⟨⟨⟨m, ii, nn, tt⟩, bb⟩, eg⟩ : ∃ p, getO st j = p := ⟨_, rfl⟩
          rw [eg] at HG HRG
          simp only at HG HRG
          rw [show En.val ⟨m, ii, nn, tt⟩ = .agg #[.int .i64 (m : Int), .int .i64 ii, .int .i64 nn, .bool tt] from rfl] at HG HRG
          clear eg hc
          go_wp2_with fail
          refine (HG.out _ hB1.out.a).mono ?_
          rintro e w1 ⟨rfl, b1⟩
          have B1 := Lib.hid (below_up hW.out b1)
          clear b1 HG
          go_upto_region 17 with (fail)
          obtain ⟨W1, eW1⟩ : ∃ X, w1.alloc (.cells #[.int .i64 (m : Int), .int .i64 ii, .int .i64 nn, .bool tt] 40) = X := ⟨_, rfl⟩
          obtain ⟨g1, eg1⟩ : ∃ g, w1.heap.size = g := ⟨_, rfl⟩
          rw [eW1, eg1]
          have B2 : Hid (Below w.heap.size w W1) := Lib.hid (by rw [← eW1]; exact B1.out.alloc B1.out.size _)
          have C1 : Hid (W1.heap[g1]? = some (.cells #[.int .i64 (m : Int), .int .i64 ii, .int .i64 nn, .bool tt] 40 (0, 0))) := Lib.hid (by rw [← eW1, ← eg1]; exact heap_alloc_new w1 _)
          clear eW1 eg1 B1
          have hB2 := Lib.hid (h0.out.below B2.out)
          go_wp2_with fail
          refine (HRG.out _ hB2.out.r).mono ?_
          rintro e w2 ⟨rfl, b2⟩
          have B3 := Lib.hid (below_up B2.out b2)
          have C2 : Hid (w2.heap[g1]? = some (.cells #[.int .i64 (m : Int), .int .i64 ii, .int .i64 nn, .bool tt] 40 (0, 0))) := Lib.hid ((b2.block g1 (Array.getElem?_eq_some_iff.1 C1.out).1).trans C1.out)
          clear b2 HRG B2 C1 hB2
          go_upto_region 18 with (fail)
          obtain ⟨W2, eW2⟩ : ∃ X, w2.alloc (.cells #[.int .i64 (m : Int), .int .i64 ii, .int .i64 nn, .bool tt] 66) = X := ⟨_, rfl⟩
          obtain ⟨g2, eg2⟩ : ∃ g, w2.heap.size = g := ⟨_, rfl⟩
          rw [eW2, eg2]
          have B4 : Hid (Below w.heap.size w W2) := Lib.hid (by rw [← eW2]; exact B3.out.alloc B3.out.size _)
          have C3 : W2.heap[g2]? = some (.cells #[.int .i64 (m : Int), .int .i64 ii, .int .i64 nn, .bool tt] 66 (0, 0)) := by rw [← eW2, ← eg2]; exact heap_alloc_new w2 _
          have C4 : W2.heap[g1]? = some (.cells #[.int .i64 (m : Int), .int .i64 ii, .int .i64 nn, .bool tt] 40 (0, 0)) := by rw [← eW2]; exact (heap_alloc_old w2 _ _ (Array.getElem?_eq_some_iff.1 C2.out).1).trans C2.out
          obtain ⟨⟨p0, p1, p2, p3⟩, -⟩ := row4 C3
          obtain ⟨⟨q0, q1, q2, q3⟩, -⟩ := row4 C4
          clear eW2 eg2 B3 C2 C3 C4
          go_wp2_with fail
          go_roundw
          case rel => exact ⟨j + 1, rfl, by omega, by omega, B4⟩
          case measure => simp [intOf]; omega
        · have hB1 := Lib.hid (h0.out.below hW.out)
          have HF := Lib.hid (Free_any B c F st wr (Lib.hid hB1.out.a))
          have HRF := Lib.hid (RFree_any B d G st wr (Lib.hid hB1.out.r))
          obtain ⟨X, eX⟩ : ∃ X, st.U.count false = X := ⟨_, rfl⟩
          rw [eX] at HF HRF
          clear eX
          by_cases hc1 : j ≤ room
          · have d1 : decide (j ≤ room) = true := decide_eq_true hc1
            have d2 : decide (j < 60) = false := decide_eq_false (fun h => hc ⟨hc1, h⟩)
            clear hc
            go_wp2_with fail
            refine HF.out.mono ?_
            rintro e w1 ⟨rfl, rfl⟩
            go_wp2_with fail
            refine HRF.out.mono ?_
            rintro e w1 ⟨rfl, rfl⟩
            go_wp2_with fail
            go_ret
            exact ⟨by rfl, hW.out⟩
          · have d1 : decide (j ≤ room) = false := decide_eq_false hc1
            clear hc
            go_wp2_with fail
            refine HF.out.mono ?_
            rintro e w1 ⟨rfl, rfl⟩
            go_wp2_with fail
            refine HRF.out.mono ?_
            rintro e w1 ⟨rfl, rfl⟩
            go_wp2_with fail
            go_ret
            exact ⟨by rfl, hW.out⟩
end Go.Proofs.Ytcfmnmknbebfnaa
