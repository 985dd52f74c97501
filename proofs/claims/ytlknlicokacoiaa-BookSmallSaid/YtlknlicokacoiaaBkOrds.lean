/-
  Contract: Orders, of book.
-/
import Derived.Test.YtlknlicokacoiaaBkReads
namespace Go.Proofs.Ytlknlicokacoiaa
open Go.RowKit
set_option linter.unusedVariables false
set_option linter.unusedSimpArgs false

/-- The orders of the sides ahead of number k. -/
def upTo (c : Cs) (k : Nat) : List Or := if k ≤ 1 then [] else if k = 2 then sideO c.st 1 (c.R 1) else c.abs
theorem upTo_next (c : Cs) {k : Nat} (hk : k = 1 ∨ k = 2) : upTo c (k + 1) = upTo c k ++ sideO c.st k (c.R k) := by
  rcases hk with rfl | rfl <;> rfl
theorem upTo_few (c : Cs) (k : Nat) : (upTo c k).length ≤ c.abs.length := by
  unfold upTo Cs.abs
  split
  · simp
  · split
    · rw [List.length_append]; omega
    · exact Nat.le_refl _
theorem sideO_take {st : St} {s : Int} {R : List (Int × Nat)} {j : Nat} {r : Int × Nat} (h : R[j]? = some r) : sideO st s (R.take (j + 1)) = sideO st s (R.take j) ++ rowO st s r := by
  rw [List.take_add_one, h, sideO_app]; simp [sideO]
theorem side_le (c : Cs) {k : Nat} (hk : k = 1 ∨ k = 2) (j : Nat) : (sideO c.st k ((c.R k).take j)).length ≤ c.abs.length := by
  have h1 : (sideO c.st k (c.R k)).length = (sideO c.st k ((c.R k).take j)).length + (sideO c.st k ((c.R k).drop j)).length := by
    rw [← List.length_append, ← sideO_app, List.take_append_drop]
  have h2 : (sideO c.st k (c.R k)).length ≤ c.abs.length := by
    unfold Cs.abs
    rw [List.length_append]
    rcases hk with rfl | rfl
    · exact Nat.le_add_right _ _
    · exact Nat.le_add_left _ _
  omega
set_option maxRecDepth 100000 in
set_option maxHeartbeats 4000000 in
theorem Orders_any (B b a : Nat) (F : Nat → Prop) (V : Nat → Value) (vs : Value) (c : Cs) (w : World) (hW : Hid (Wb B b a F V vs c w)) (hI : Hid (CInv noEx c)) (hQ : c.st.Q.length ≤ 250) :
    Calls Try.prog 21 #[.pointer (some ⟨b, 0, none⟩)] w (AppPost w.heap.size c.abs w) := by
  have bs : Hid (Below w.heap.size w w) := Lib.hid (Below.refl _ _)
  obtain ⟨D, eD⟩ : ∃ D, w.heap.size = D := ⟨_, rfl⟩
  have hlow : Hid (∀ k, wfoot b F V vs k → k < D) := Lib.hid (fun k hk => by have := (hW.out.lt hk).2; omega)
  have st0 : Hid (Own fO 40 w D (.slice none 0 0) (upTo c 1)) := Lib.hid (own_nil _ _ _)
  have few := hI.out.few
  rw [eD] at bs ⊢
  replace eD := Lib.hid eD
  go_enter Try.func21, Try.ntmps21
  go_wp2_with fail
  go_loopw [3, 4] (fun v' i wr => ∃ k : Nat, i = .int .i64 k ∧ 1 ≤ k ∧ k ≤ 3 ∧ Hid (Own fO 40 wr D v' (upTo c k)) ∧ Hid (Below D w wr)) (fun _ i _ => (3 - intOf i).toNat)
  case atStart => exact ⟨1, rfl, by omega, by omega, st0, bs⟩
  case round =>
    clear st0 bs
    obtain ⟨k, rfl, k1, k3, hOw, hB⟩ := hrel
    by_cases hk : k = 3
    · subst hk
      have hfin : Hid (Own fO 40 wr D u3 c.abs) := hOw
      clear hOw
      go_wp2_with fail
      go_ret
      exact ⟨_, rfl, hfin.out, hB.out⟩
    · have hk12 : k = 1 ∨ k = 2 := by omega
      have hW1 := Lib.hid (hW.out.after hB.out hlow.out)
      have HR := Lib.hid (Rows_yes b a V vs c.R c.T c.S k wr (Lib.hid hW1.out.bm) hk12)
      obtain ⟨A, cap, ev, hv, -, -, -, hA⟩ := (hW1.out.bm.rw k hk12).slice
      obtain ⟨n, en⟩ : ∃ n, (c.R k).length = n := ⟨_, rfl⟩
      rw [ev, en] at HR
      rw [en] at hv
      have hAD : Hid (∀ ad, A = some ad → ad.block < D) := Lib.hid (fun ad e => by
        have hvb : (V k).ownBlock = some ad.block := by rw [ev, e]; rfl
        exact hlow.out _ (.inr (bfoot_v hk12 hvb)))
      have hn : n ≤ 250 := by rw [← en]; exact Nat.le_trans (hI.out.rows_le' k) hQ
      have hvh := Lib.hid hv
      have hk12' := Lib.hid hk12
      have d2 : (k : Int) ≤ 2 := by omega
      have hwr : Hid (D ≤ wr.heap.size) := Lib.hid (by have := hB.out.size; have := eD.out; omega)
      have start : Hid (Own fO 40 wr D u3 (upTo c k ++ sideO c.st k ((c.R k).take 0))) := Lib.hid (by rw [List.take_zero, sideO, List.append_nil]; exact hOw.out)
      have rel0 : Hid (Below D wr wr) := Lib.hid (Below.refl _ _)
      replace ev := Lib.hid ev
      replace en := Lib.hid en
      clear hOw hv hA hk hk12
      rename World => wo
      go_wp2_with fail
      refine HR.out.mono ?_
      rintro e wo ⟨rfl, rfl⟩
      go_wp2_with fail
      go_loopw [3, 15] (fun v' i wr => ∃ j : Nat, i = .int .i64 j ∧ j ≤ n ∧ Hid (Own fO 40 wr D v' (upTo c k ++ sideO c.st k ((c.R k).take j))) ∧ Hid (Below D wo wr)) (fun _ i _ => (n - intOf i).toNat)
      case atStart => exact ⟨0, rfl, by omega, start, rel0⟩
      case round =>
        clear start rel0
        obtain ⟨j, rfl, hj, hOi, hBi⟩ := hrel
        have hBw := Lib.hid (hB.out.trans hBi.out)
        by_cases hlt : j < n
        · obtain ⟨r, hr⟩ : ∃ r, (c.R k)[j]? = some r := ⟨_, List.getElem?_eq_getElem (by rw [en.out]; exact hlt)⟩
          have htk : Hid (upTo c k ++ sideO c.st k ((c.R k).take (j + 1)) = (upTo c k ++ sideO c.st k ((c.R k).take j)) ++ rowO c.st k r) := Lib.hid (by rw [sideO_take hr, List.append_assoc])
          have hHV : HV fR wr A n (c.R k) := hvh.out.keep (fun b' ⟨off, e⟩ _ => hBi.out.block b' (hAD.out _ e))
          obtain ⟨gv, off, rfl, c0, c1⟩ := hHV.atR hr
          obtain ⟨W3, eW3⟩ : ∃ W, wr.alloc (.cells #[.int .i64 r.1, .int .i64 (r.2 : Int)] 86) = W := ⟨_, rfl⟩
          have b3 : Below wr.heap.size wr W3 := by rw [← eW3]; exact (Below.refl _ wr).alloc (Nat.le_refl _) _
          have hDr : D ≤ wr.heap.size := by have := hBi.out.size; have := hwr.out; omega
          have B3 : Hid (Below D w W3) := Lib.hid (hBw.out.trans (b3.mono hDr))
          have hmem : r ∈ c.R k := List.mem_iff_getElem?.2 ⟨j, hr⟩
          have hlq : (lq c.st r.2).length ≤ 250 := by
            obtain ⟨X, Y, e⟩ := List.append_of_mem hmem
            have hqQ := (hI.out.apart (p := r.1) (q := r.2) e).lt
            have := hI.out.ok.short (lq_some hqQ)
            rw [hI.out.room] at this; exact this
          have hC : Hid (∀ e ∈ lq c.st r.2, c.T[e.s]? = some ((k : Int), r.1)) := Lib.hid (fun e he => hI.out.seat k r e hmem he)
          have hlen : (upTo c k ++ sideO c.st k ((c.R k).take j)).length ≤ 500 := by
            rw [List.length_append]
            have h1 := upTo_few c k
            have h2 := side_le c hk12'.out j
            omega
          have HA := App_any B b a F V vs c D u3 (upTo c k ++ sideO c.st k ((c.R k).take j)) k r W3 (Lib.hid (hW.out.after B3.out hlow.out)) hC hlow (Lib.hid (Nat.le_trans hDr b3.size)) (Lib.hid (hOi.out.below b3)) (Lib.hid (by omega)) (by omega)
          have HA' : Hid (Calls Try.prog 47 #[.pointer (some ⟨b, 0, none⟩), u3, .agg #[.int .i64 r.1, .int .i64 (r.2 : Int)]] W3 (AppPost D (upTo c k ++ sideO c.st k ((c.R k).take (j + 1))) W3)) := Lib.hid (by rw [htk.out]; exact HA)
          obtain ⟨⟨q0, q1⟩, -⟩ := row2 (show W3.heap[wr.heap.size]? = some (.cells #[.int .i64 r.1, .int .i64 (r.2 : Int)] 86 (0, 0)) by rw [← eW3]; exact heap_alloc_new wr _)
          have hb3 : Hid (Below D wo W3) := Lib.hid (hBi.out.trans (b3.mono hDr))
          obtain ⟨rp, rq⟩ := r
          simp only at c0 c1 q0 q1 HA' eW3
          replace b3 := Lib.hid b3
          replace hr := Lib.hid hr
          replace hmem := Lib.hid hmem
          replace hHV := Lib.hid hHV
          clear HA hOi hBi hBw hC hlq htk hlen
          go_wp2_with fail
          refine HA'.out.mono ?_
          rintro e w4 ⟨v4, rfl, o4, b4⟩
          have B4 := Lib.hid (hb3.out.trans b4)
          replace o4 := Lib.hid o4
          replace b4 := Lib.hid b4
          clear c0 c1 q0 q1 HA' eW3
          go_wp2_with fail
          go_roundw
          case rel => exact ⟨j + 1, by go_num, by omega, o4, B4⟩
          case measure => simp [intOf]; omega
        · obtain rfl : j = n := by omega
          have hO2 : Hid (Own fO 40 wr D u3 (upTo c (k + 1))) := Lib.hid (by
            have := hOi.out
            rw [List.take_of_length_le (by rw [en.out]; exact Nat.le_refl _)] at this
            rw [upTo_next c hk12'.out]; exact this)
          clear hOi
          go_wp2_with fail
          go_roundw
          case rel => exact ⟨k + 1, by go_num, by omega, by omega, hO2, hBw⟩
          case measure => simp [intOf]; omega
end Go.Proofs.Ytlknlicokacoiaa
