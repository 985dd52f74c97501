/-
  A report's text; contract: Text, of the program.
-/
import Derived.Test.YtjhfgajhmenboaaDoorAppInt
import Derived.Test.YtjhfgajhmenboaaDoorRepRow
namespace Go.Proofs.YtjhfgajhmenboaaDoor
open Go.RowKit
set_option linter.unusedVariables false
set_option linter.unusedSimpArgs false

/-- A kind's word. -/
def wordL (k : Int) : List UInt8 :=
  if k = 1 then [111, 107] else if k = 2 then [110, 111] else if k = 3 then [116, 114, 97, 100, 101] else if k = 4 then [103, 111, 110, 101] else if k = 5 then [108, 101, 115, 115] else [63]
theorem wordL_len (k : Int) : (wordL k).length ≤ 5 := by
  unfold wordL
  repeat' split
  all_goals simp
def numQ (r : Q) (j : Nat) : Int := ([r.i, r.n, r.s, r.p, r.q, r.l, r.y]).getD j 0
theorem numQ_ok {r : Q} (h : r.Ok) (j : Nat) : I64 (numQ r j) := by
  obtain ⟨h0, h1, h2, h3, h4, h5, h6, h7⟩ := h
  match j with
  | 0 => exact h1
  | 1 => exact h2
  | 2 => exact h3
  | 3 => exact h4
  | 4 => exact h5
  | 5 => exact h6
  | 6 => exact h7
  | j + 7 => exact ⟨by simp [numQ], by simp [numQ]⟩
/-- A report's text, as far as so many of its numbers. -/
def textTo (r : Q) : Nat → List UInt8
  | 0 => wordL r.k
  | j + 1 => textTo r j ++ 32 :: Lib.itoa (numQ r j)
def textQ (r : Q) : List UInt8 := textTo r 7
theorem textTo_next (r : Q) (j : Nat) : textTo r (j + 1) = textTo r j ++ [32] ++ Lib.itoa (numQ r j) := by rw [textTo, List.append_assoc]; rfl
theorem textTo_len {r : Q} (h : r.Ok) (j : Nat) : (textTo r j).length ≤ 5 + 22 * j := by
  induction j with
  | zero => exact wordL_len _
  | succ j ih =>
    have h1 := numQ_ok h j
    have := Lib.itoa_length_le (numQ r j) h1.1 h1.2
    rw [textTo, List.length_append, List.length_cons]
    omega
theorem textQ_len {r : Q} (h : r.Ok) : (textQ r).length ≤ 159 := textTo_len h 7
attribute [irreducible] textTo
theorem textTo_zero (r : Q) : textTo r 0 = wordL r.k := by unfold textTo; rfl
/-- The cells of the row of a report's numbers. -/
theorem num_cell {w : World} {b : Nat} {k i n s p q l y : Int} (h : w.heap[b]? = some (.cells #[.int .i64 i, .int .i64 n, .int .i64 s, .int .i64 p, .int .i64 q, .int .i64 l, .int .i64 y] 2 (0, 0))) {j : Nat} (hj : j < 7) : w.cell? ⟨b, j, none⟩ = some (.int .i64 (numQ ⟨k, i, n, s, p, q, l, y⟩ j)) := by
  rw [Lib.cell_of_heap h]
  match j, hj with
  | 0, _ => rfl
  | 1, _ => rfl
  | 2, _ => rfl
  | 3, _ => rfl
  | 4, _ => rfl
  | 5, _ => rfl
  | 6, _ => rfl
/-- The table of powers of ten reads as the text lays it. -/
def Tab (w : World) : Prop := Lib.TabIs Tryd.prog w "internal/strconv.uint64pow10" .u64 Lib.pow10Tab
theorem Tab.below {w w' : World} (h : Tab w) (hb : Below w.heap.size w w') : Tab w' := Lib.tabBelow_of_tabIs h w' hb
set_option maxRecDepth 100000 in
set_option maxHeartbeats 1000000 in
theorem Word_1 (w : World) : Calls Tryd.prog 30 #[.int .i64 1] w fun e w' => e = .returned (.string (str (wordL 1))) ∧ w' = w := by
  go_enter Tryd.func30, Tryd.ntmps30
  go_wp2_with fail
  go_ret
  exact ⟨rfl, rfl⟩
set_option maxRecDepth 100000 in
set_option maxHeartbeats 1000000 in
theorem Word_2 (w : World) : Calls Tryd.prog 30 #[.int .i64 2] w fun e w' => e = .returned (.string (str (wordL 2))) ∧ w' = w := by
  go_enter Tryd.func30, Tryd.ntmps30
  go_wp2_with fail
  go_ret
  exact ⟨rfl, rfl⟩
set_option maxRecDepth 100000 in
set_option maxHeartbeats 1000000 in
theorem Word_3 (w : World) : Calls Tryd.prog 30 #[.int .i64 3] w fun e w' => e = .returned (.string (str (wordL 3))) ∧ w' = w := by
  go_enter Tryd.func30, Tryd.ntmps30
  go_wp2_with fail
  go_ret
  exact ⟨rfl, rfl⟩
set_option maxRecDepth 100000 in
set_option maxHeartbeats 1000000 in
theorem Word_4 (w : World) : Calls Tryd.prog 30 #[.int .i64 4] w fun e w' => e = .returned (.string (str (wordL 4))) ∧ w' = w := by
  go_enter Tryd.func30, Tryd.ntmps30
  go_wp2_with fail
  go_ret
  exact ⟨rfl, rfl⟩
set_option maxRecDepth 100000 in
set_option maxHeartbeats 1000000 in
theorem Word_5 (w : World) : Calls Tryd.prog 30 #[.int .i64 5] w fun e w' => e = .returned (.string (str (wordL 5))) ∧ w' = w := by
  go_enter Tryd.func30, Tryd.ntmps30
  go_wp2_with fail
  go_ret
  exact ⟨rfl, rfl⟩
set_option maxRecDepth 100000 in
set_option maxHeartbeats 1000000 in
theorem Word_no (k : Int) (w : World) (h : ¬ (1 ≤ k ∧ k ≤ 5)) : Calls Tryd.prog 30 #[.int .i64 k] w fun e w' => e = .returned (.string (str (wordL k))) ∧ w' = w := by
  rw [show wordL k = [63] by unfold wordL; rw [if_neg (by omega), if_neg (by omega), if_neg (by omega), if_neg (by omega), if_neg (by omega)]]
  have d1 : (k == 1) = false := by simp; omega
  have d2 : (k == 2) = false := by simp; omega
  have d3 : (k == 3) = false := by simp; omega
  have d4 : (k == 4) = false := by simp; omega
  have d5 : (k == 5) = false := by simp; omega
  go_enter Tryd.func30, Tryd.ntmps30
  go_wp2_with fail
  go_ret
  exact ⟨rfl, rfl⟩
theorem Word_any (k : Int) (w : World) : Calls Tryd.prog 30 #[.int .i64 k] w fun e w' => e = .returned (.string (str (wordL k))) ∧ w' = w := by
  by_cases h : 1 ≤ k ∧ k ≤ 5
  · have : k = 1 ∨ k = 2 ∨ k = 3 ∨ k = 4 ∨ k = 5 := by omega
    rcases this with rfl | rfl | rfl | rfl | rfl
    · exact Word_1 w
    · exact Word_2 w
    · exact Word_3 w
    · exact Word_4 w
    · exact Word_5 w
  · exact Word_no k w h
set_option maxRecDepth 100000 in
set_option maxHeartbeats 3200000 in
theorem PText_go (k i n s p q l y : Int) (w : World) (hO : (Q.mk k i n s p q l y).Ok) (hT : Hid (Tab w)) :
    Calls Tryd.prog 10 #[.agg #[.int .i64 k, .int .i64 i, .int .i64 n, .int .i64 s, .int .i64 p, .int .i64 q, .int .i64 l, .int .i64 y]] w fun e w' => e = .returned (.string (str (textQ (Q.mk k i n s p q l y)))) ∧ Below w.heap.size w w' := by
  obtain ⟨i0, hi0, hz0, hz1, hz2⟩ := info_parts info_u8
  have hO := Lib.hid hO
  obtain ⟨w0, ew⟩ : ∃ W, w.alloc (.cells #[.int .i64 k, .int .i64 i, .int .i64 n, .int .i64 s, .int .i64 p, .int .i64 q, .int .i64 l, .int .i64 y] 25) = W := ⟨_, rfl⟩
  obtain ⟨rb, erb⟩ : ∃ rb, w.heap.size = rb := ⟨_, rfl⟩
  have C0 : Hid (w0.heap[rb]? = some (.cells #[.int .i64 k, .int .i64 i, .int .i64 n, .int .i64 s, .int .i64 p, .int .i64 q, .int .i64 l, .int .i64 y] 25 (0, 0))) := Lib.hid (by rw [← ew, ← erb]; exact heap_alloc_new w _)
  have B0 : Hid (Below w.heap.size w w0) := Lib.hid (by rw [← ew]; exact (Below.refl _ w).alloc (Nat.le_refl _) _)
  replace ew := Lib.hid ew
  replace erb := Lib.hid erb
  go_enter Tryd.func10, Tryd.ntmps10
  go_wp2_with fail
  rw [ew.out, erb.out]
  obtain ⟨j0, j1, j2, j3, j4, j5, j6, j7⟩ := rep_at C0.out
  go_wp2_with fail
  refine (Word_any k w0).mono ?_
  rintro e w1 ⟨rfl, rfl⟩
  have hcv := Lib.run_convert_string_bytes (P := Tryd.prog) w1 9 26 5 (str (wordL k)) Tryd.underlying9 Tryd.underlying26 Tryd.underlying5
  have hM := mb_conv w1 (wordL k) (by have := wordL_len k; omega)
  have hb := below_conv w1 (str (wordL k))
  have hz := str_size (wordL k)
  obtain ⟨w2, ew2⟩ : ∃ W, Lib.bytesWorld w1 5 (str (wordL k)) = W := ⟨_, rfl⟩
  obtain ⟨v2, ev2⟩ : ∃ v, Value.slice (some ⟨w1.heap.size, 0, none⟩) (str (wordL k)).size (grownCap w1 (str (wordL k)).size 0 5) = v := ⟨_, rfl⟩
  rw [ew2, ev2] at hcv hM
  rw [ew2] at hb
  have g0 : w.heap.size ≤ w1.heap.size := B0.out.size
  have hM := Lib.hid hM
  have C2 := Lib.hid ((hb.block rb (Array.getElem?_eq_some_iff.1 C0.out).1).trans C0.out)
  have B2 := Lib.hid (B0.out.trans (hb.mono g0))
  clear ew2 ev2 hb hz C0 B0 j0 j1 j2 j3 j4 j5 j6 j7
  obtain ⟨j0, j1, j2, j3, j4, j5, j6, j7⟩ := rep_at C2.out
  go_wp2_with fail
  obtain ⟨w3, ew3⟩ : ∃ W, w2.alloc (.cells #[.int .i64 i, .int .i64 n, .int .i64 s, .int .i64 p, .int .i64 q, .int .i64 l, .int .i64 y] 2) = W := ⟨_, rfl⟩
  obtain ⟨nb, enb⟩ : ∃ nb, w2.heap.size = nb := ⟨_, rfl⟩
  have N3 : Hid (w3.heap[nb]? = some (.cells #[.int .i64 i, .int .i64 n, .int .i64 s, .int .i64 p, .int .i64 q, .int .i64 l, .int .i64 y] 2 (0, 0))) := Lib.hid (by rw [← ew3, ← enb]; exact heap_alloc_new w2 _)
  have B3 : Hid (Below w.heap.size w w3) := Lib.hid (by rw [← ew3]; exact B2.out.alloc B2.out.size _)
  have M3 : Hid (MB w3 w.heap.size v2 (textTo (Q.mk k i n s p q l y) 0)) := Lib.hid (by
    rw [textTo_zero, ← ew3]
    have h1 := hM.out.only (alloc_only w2 (.cells #[.int .i64 i, .int .i64 n, .int .i64 s, .int .i64 p, .int .i64 q, .int .i64 l, .int .i64 y] 2)) (fun _ _ e => e)
    rcases h1 with h1 | ⟨g, cap, cur, fz, e1, e2, e3⟩
    · exact .inl h1
    · exact .inr ⟨g, cap, cur, fz, e1, Nat.le_trans g0 e2, e3⟩)
  have K3 : Hid (Lib.OthersKept 5 none w3 w3) := Lib.hid (Lib.OthersKept.refl _ _ _)
  have hTB := Lib.hid (Lib.tabBelow_of_tabIs hT.out)
  rw [ew3, enb]
  clear ew3 enb hM C2 B2 j0 j1 j2 j3 j4 j5 j6 j7 hcv
  go_loopw [3, 26] (fun v j wr => ∃ m : Nat, j = .int .i64 m ∧ m ≤ 7 ∧ Hid (MB wr w.heap.size v (textTo (Q.mk k i n s p q l y) m)) ∧ Hid (Below w.heap.size w wr) ∧ Hid (Lib.OthersKept 5 none w3 wr)) (fun _ j _ => (7 - intOf j).toNat)
  case atStart => exact ⟨0, rfl, by omega, M3, B3, K3⟩
  case round =>
    clear M3 B3 K3
    obtain ⟨m, rfl, hm, hM, hB, hK⟩ := hrel
    by_cases hlt : m < 7
    · have d1 : decide ((m : Int) < 7) = true := decide_eq_true (by omega)
      have d3 : (m : Int) < 7 := by omega
      have hNB : wr.heap[nb]? = some (.cells #[.int .i64 i, .int .i64 n, .int .i64 s, .int .i64 p, .int .i64 q, .int .i64 l, .int .i64 y] 2 (0, 0)) := hK.out nb _ N3.out (by simp) (by intro c fz e; injection e with _ e _; exact absurd e (by decide))
      have hc := num_cell (k := k) hNB hlt
      have hnx := Lib.hid (textTo_next (Q.mk k i n s p q l y) m)
      have hln := textTo_len hO.out m
      have hnum := numQ_ok hO.out m
      obtain ⟨num, enum⟩ : ∃ z, numQ (Q.mk k i n s p q l y) m = z := ⟨_, rfl⟩
      obtain ⟨T, eT⟩ : ∃ T, textTo (Q.mk k i n s p q l y) m = T := ⟨_, rfl⟩
      rw [enum] at hc hnx hnum
      rw [eT] at hnx hM hln
      clear enum eT hNB
      have bz : w.heap.size ≤ (wr.alloc (.cells #[.int .u8 32] 5)).heap.size := by have := hB.out.size; simp; omega
      have bz := Lib.hid bz
      have HM0 : Hid (MB (wr.alloc (.cells #[.int .u8 32] 5)) w.heap.size u3 T) := Lib.hid (hM.out.only (alloc_only wr _) (fun _ _ e => e))
      have HS : Hid (HB (wr.alloc (.cells #[.int .u8 32] 5)) (some ⟨wr.heap.size, 0, none⟩) 1 [32]) := Lib.hid (hb_lit wr [32])
      go_wp2_with (at_builtin; refine wpList_onto_M (by rfl) (.tmp 30) (.tmp 31) 26 (by rfl) w.heap.size i0 Tryd.underlying26 hi0 hz0 hz1 hz2 _ T (by rfl) HM0.out ⟨wr.heap.size, 0, none⟩ 1 1 [32] (by rfl) HS.out (by omega) bz.out ?_)
      intro v5 w5 h5 g5
      have B5 := Lib.hid ((hB.out.alloc hB.out.size _).grown g5 bz.out (fun q hq => (HM0.out.blk hq).1))
      have K5 := Lib.hid ((hK.out.alloc _).grown g5 HM0.out.kind)
      have h5 := Lib.hid h5
      have T5 := Lib.hid (hTB.out.on B5.out)
      have bz5 : w.heap.size ≤ w5.heap.size := B5.out.size
      clear g5 HM0 HS hM hB hK hc bz
      go_wp2_with fail
      refine (AppendInt_any w.heap.size v5 (T ++ [32]) num w5 hnum.1 hnum.2 h5 bz5 (by simp; omega) T5).mono ?_
      rintro e w6 ⟨v6, rfl, h6, b6, k6⟩
      rw [← hnx.out] at h6
      have h6 := Lib.hid h6
      have B6 := Lib.hid (B5.out.trans b6)
      have K6 := Lib.hid (K5.out.trans k6)
      clear b6 k6 h5 B5 K5 T5
      go_wp2_with fail
      go_roundw
      case rel => exact ⟨m + 1, by go_num, by omega, h6, B6, K6⟩
      case measure => simp [intOf]; omega
    · obtain rfl : m = 7 := by omega
      obtain ⟨A, cap, rfl, H⟩ := hM.out.holds
      have hs1 : (convert 26 9 (.slice A (textTo (Q.mk k i n s p q l y) 7).length cap)).run Tryd.prog wr = .ok (.string (str (textTo (Q.mk k i n s p q l y) 7))) wr := H.str cap
      have eT : Hid (textQ (Q.mk k i n s p q l y) = textTo (Q.mk k i n s p q l y) 7) := Lib.hid rfl
      obtain ⟨T, eT2⟩ : ∃ T, textTo (Q.mk k i n s p q l y) 7 = T := ⟨_, rfl⟩
      rw [eT2] at hs1 eT ⊢
      clear hM H eT2
      go_wp2_with fail
      go_ret
      exact ⟨by rw [eT.out]; rfl, hB.out⟩
theorem PText_any (r : Q) (w : World) (hO : r.Ok) (hT : Hid (Tab w)) : Calls Tryd.prog 10 #[r.val] w fun e w' => e = .returned (.string (str (textQ r))) ∧ Below w.heap.size w w' := by
  obtain ⟨k, i, n, s, p, q, l, y⟩ := r
  exact PText_go k i n s p q l y w hO hT
end Go.Proofs.YtjhfgajhmenboaaDoor
