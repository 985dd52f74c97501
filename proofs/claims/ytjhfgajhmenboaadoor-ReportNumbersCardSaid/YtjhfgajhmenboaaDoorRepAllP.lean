/-
  Contract: All, of the program.
-/
import Derived.Test.YtjhfgajhmenboaaDoorRepRow
import Derived.Test.YtjhfgajhmenboaaDoorRepEncP
namespace Go.Proofs.YtjhfgajhmenboaaDoor
open Go.RowKit
set_option linter.unusedVariables false
set_option linter.unusedSimpArgs false

/-- The frames of the right ones among reports, one behind the other. -/
def frQ (r : Q) : List UInt8 := if r.Right then frameL (encQ r) else []
def allQ : List Q → List UInt8
  | [] => []
  | r :: L => frQ r ++ allQ L
theorem frQ_yes {r : Q} (h : r.Right) : frQ r = frameL (encQ r) := if_pos h
theorem frQ_no {r : Q} (h : ¬ r.Right) : frQ r = [] := if_neg h
theorem frQ_len (r : Q) : (frQ r).length ≤ 42 := by
  by_cases h : r.Right
  · rw [frQ_yes h, frameL_len, encQ_len]; omega
  · rw [frQ_no h]; exact Nat.zero_le _
theorem allQ_len (L : List Q) : (allQ L).length ≤ 42 * L.length := by
  induction L with
  | nil => exact Nat.zero_le _
  | cons r L ih => rw [allQ, List.length_append, List.length_cons]; have := frQ_len r; omega
theorem allQ_snoc (L : List Q) (r : Q) : allQ (L ++ [r]) = allQ L ++ frQ r := by
  induction L with
  | nil => simp [allQ]
  | cons x L ih => rw [List.cons_append, allQ, allQ, ih, List.append_assoc]
theorem take_snoc {L : List Q} {k : Nat} (h : k < L.length) : L.take (k + 1) = L.take k ++ [L.getD k zeroQ] := by
  rw [List.take_add_one, List.getElem?_eq_getElem h]
  simp [List.getD, List.getElem?_eq_getElem h]
theorem allQ_next {L : List Q} {k : Nat} (h : k < L.length) : allQ (L.take (k + 1)) = allQ (L.take k) ++ frQ (L.getD k zeroQ) := by
  rw [take_snoc h, allQ_snoc]
theorem take_len_le (L : List Q) (k : Nat) : (L.take k).length ≤ k := by rw [List.length_take]; omega
set_option maxRecDepth 100000 in
set_option maxHeartbeats 1000000 in
theorem PAll_any (A : Option Addr) (n cap : Nat) (L : List Q) (w : World) (hn : n ≤ 100000) (hc1 : n ≤ cap) (hc2 : cap ≤ 9223372036854775807) (h : Hid (HR w A n L)) (hO : Hid (OkL L)) :
    Calls Tryd.prog 14 #[.slice A n cap] w fun e w' => ∃ v, e = .returned v ∧ RB w' w.heap.size v (allQ L) ∧ Below w.heap.size w w' := by
  obtain ⟨i0, hi0, hz0, hz1, hz2⟩ := info_parts info_u8
  have hL := Lib.hid h.out.1
  have b1 : Hid (Below w.heap.size w w) := Lib.hid (Below.refl _ _)
  obtain ⟨T0, eT0⟩ : ∃ T, allQ (L.take 0) = T := ⟨_, rfl⟩
  have R1 : Hid (RB w w.heap.size (.slice none 0 0) T0) := Lib.hid (by rw [← eT0, List.take_zero]; exact rb_nil _ _)
  obtain ⟨g, eg⟩ : ∃ g, w.heap.size = g := ⟨_, rfl⟩
  rw [eg] at R1
  have eg := Lib.hid eg
  have eT0 := Lib.hid eT0
  go_enter Tryd.func14, Tryd.ntmps14
  go_wp2_with fail
  go_loopw [3, 12] (fun v i wr => ∃ k : Nat, i = .int .i64 k ∧ k ≤ n ∧ Hid (RB wr g v (allQ (L.take k))) ∧ Hid (Below w.heap.size w wr)) (fun _ i _ => (n - intOf i).toNat)
  case atStart => exact ⟨0, rfl, by omega, Lib.hid (by rw [eT0.out]; exact R1.out), b1⟩
  case round =>
    clear R1 b1 eT0
    obtain ⟨k, rfl, hk, hR, hW⟩ := hrel
    by_cases hlt : k < n
    · have d1 : decide ((k : Int) < (n : Int)) = true := decide_eq_true (by omega)
      have d3 : (k : Int) < (n : Int) := by omega
      obtain ⟨ba, oa, rfl, c0, c1, c2, c3, c4, c5, c6, c7⟩ := (h.out.below hW.out).2 k hlt
      have hnx := Lib.hid (allQ_next (L := L) (k := k) (by rw [hL.out]; exact hlt))
      have hal := allQ_len (L.take k)
      have htk := take_len_le L k
      have hok := Lib.hid (hO.out.get k)
      obtain ⟨r, er⟩ : ∃ r, L.getD k zeroQ = r := ⟨_, rfl⟩
      rw [er] at c0 c1 c2 c3 c4 c5 c6 c7 hnx hok
      clear er
      obtain ⟨T, eT⟩ : ∃ T, allQ (L.take k) = T := ⟨_, rfl⟩
      rw [eT] at hnx hR hal
      clear eT
      obtain ⟨k', i', n', s', p', q', l', y'⟩ := r
      simp only at c0 c1 c2 c3 c4 c5 c6 c7
      go_upto_region 5 with (fail)
      obtain ⟨w1, ew1⟩ : ∃ W, wr.alloc (.cells #[.int .i64 k', .int .i64 i', .int .i64 n', .int .i64 s', .int .i64 p', .int .i64 q', .int .i64 l', .int .i64 y'] 25) = W := ⟨_, rfl⟩
      have R1 : Hid (RB w1 g u3 T) := Lib.hid (by rw [← ew1]; exact hR.out.alloc _)
      have B1 : Hid (Below w.heap.size w w1) := Lib.hid (by rw [← ew1]; exact hW.out.alloc hW.out.size _)
      obtain ⟨gb, egb⟩ : ∃ gb, wr.heap.size = gb := ⟨_, rfl⟩
      have C1 : Hid (w1.heap[gb]? = some (.cells #[.int .i64 k', .int .i64 i', .int .i64 n', .int .i64 s', .int .i64 p', .int .i64 q', .int .i64 l', .int .i64 y'] 25 (0, 0))) := Lib.hid (by rw [← ew1, ← egb]; exact heap_alloc_new wr _)
      show Code.wp _ _ _ _ (wr.alloc (.cells #[.int .i64 k', .int .i64 i', .int .i64 n', .int .i64 s', .int .i64 p', .int .i64 q', .int .i64 l', .int .i64 y'] 25))
      rw [ew1, egb]
      clear ew1 egb hR hW c0 c1 c2 c3 c4 c5 c6 c7
      obtain ⟨j0, j1, j2, j3, j4, j5, j6, j7⟩ := rep_at C1.out
      go_wp2_with fail
      refine (PEncode_any ⟨k', i', n', s', p', q', l', y'⟩ w1 hok.out).mono ?_
      rintro e w2 ⟨v2, rfl, r2, b2⟩
      have R2 := Lib.hid (R1.out.only (only_below b2) (fun _ _ e => e))
      have B2 := Lib.hid (below_up B1.out b2)
      clear j0 j1 j2 j3 j4 j5 j6 j7 C1
      by_cases hr : Q.Right ⟨k', i', n', s', p', q', l', y'⟩
      · rw [encE_yes hr]
        rw [encR_yes hr] at r2
        rw [frQ_yes hr] at hnx
        obtain ⟨A2, n2, c2, rfl, H2, h21, h22, h23, h24⟩ := r2.slice
        have hel := encQ_len ⟨k', i', n', s', p', q', l', y'⟩
        obtain ⟨E, eE⟩ : ∃ E, encQ ⟨k', i', n', s', p', q', l', y'⟩ = E := ⟨_, rfl⟩
        rw [eE] at H2 hnx h24 hel
        have H2 := Lib.hid H2
        clear eE r2 b2 R1 B1 hr
        go_wp2_with fail
        refine (Frame_any A2 n2 c2 E w2 (by omega) h21 H2).mono ?_
        rintro e w3 ⟨v3, rfl, r3, b3⟩
        have R3 := Lib.hid (R2.out.only (only_below b3) (fun _ _ e => e))
        have B3 := Lib.hid (below_up B2.out b3)
        obtain ⟨A3, n3, c3, rfl, H3, h31, h32, h33, h34⟩ := r3.slice
        have hfl := frameL_len E
        have H3 := Lib.hid H3
        have bz3 : g ≤ w3.heap.size := by rw [← eg.out]; exact B3.out.size
        clear r3 b3 R2 B2 H2
        go_wp2_with (at_builtin; refine wpList_onto_b (by rfl) (.tmp 28) (.tmp 29) 26 (by rfl) g i0 Tryd.underlying26 hi0 hz0 hz1 hz2 _ _ (by rfl) R3.out A3 n3 c3 (frameL E) (by rfl) H3.out h31 (by omega) bz3 ?_)
        intro v4 w4 r4 g4 o4
        have B4 := Lib.hid (B3.out.grown g4 B3.out.size (fun q hq => by rw [eg.out]; exact (R3.out.blk hq).1))
        have R4 := Lib.hid r4
        clear r4 g4 o4 R3 B3 H3
        go_wp2_with fail
        go_roundw
        case rel => exact ⟨k + 1, by go_num, by omega, Lib.hid (by rw [hnx.out]; exact R4.out), B4⟩
        case measure => simp [intOf]; omega
      · rw [encE_no hr]
        rw [frQ_no hr, List.append_nil] at hnx
        clear r2 b2 R1 B1 hr
        go_wp2_with fail
        go_roundw
        case rel => exact ⟨k + 1, by go_num, by omega, Lib.hid (by rw [hnx.out]; exact R2.out), B2⟩
        case measure => simp [intOf]; omega
    · obtain rfl : k = n := by omega
      have d1 : decide ((k : Int) < (k : Int)) = false := by simp
      have hall := hR.out
      rw [List.take_of_length_le (by rw [hL.out]; exact Nat.le_refl _), ← eg.out] at hall
      have hall := Lib.hid hall
      clear hR
      go_wp2_with fail
      go_ret
      exact ⟨_, rfl, hall.out, hW.out⟩
end Go.Proofs.YtjhfgajhmenboaaDoor
