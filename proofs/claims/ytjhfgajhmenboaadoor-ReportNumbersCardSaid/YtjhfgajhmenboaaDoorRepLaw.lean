/-
  What the laws of reports share: when two reports are the same; Same, known and read.
-/
import Derived.Test.YtjhfgajhmenboaaDoorRepReadP
import Derived.Test.YtjhfgajhmenboaaDoorRepReadR
import Derived.Test.YtjhfgajhmenboaaDoorRepTextP
import Derived.Test.YtjhfgajhmenboaaDoorKeepBytes
namespace Go.Proofs.YtjhfgajhmenboaaDoor
open Go.RowKit
set_option linter.unusedVariables false
set_option linter.unusedSimpArgs false

theorem rb_first' {w : World} {base n cap : Nat} {A : Option Addr} {l : List UInt8} (h : RB w base (.slice A n cap) l) (hl : 0 < l.length) : ∃ g, A = some ⟨g, 0, none⟩ ∧ base ≤ g := by
  rcases h.2 with ⟨e1, e2⟩ | ⟨g, cap', cur, e1, hg, _⟩
  · omega
  · injection e1 with e1 _ _
    exact ⟨g, e1, hg⟩
set_option maxRecDepth 100000 in
set_option maxHeartbeats 1000000 in
theorem rep_in (k i n s p q l y k' i' n' s' p' q' l' y' : Int) (w : World) :
    (Op.equalIn 10000 25 (.agg #[.int .i64 k, .int .i64 i, .int .i64 n, .int .i64 s, .int .i64 p, .int .i64 q, .int .i64 l, .int .i64 y]) (.agg #[.int .i64 k', .int .i64 i', .int .i64 n', .int .i64 s', .int .i64 p', .int .i64 q', .int .i64 l', .int .i64 y'])).run Tryd.prog w = .ok ((k == k') && (i == i') && (n == n') && (s == s') && (p == p') && (q == q') && (l == l') && (y == y')) w := by
  have u1 := Tryd.underlying3
  have u2 := Tryd.underlying2
  have u3 := Tryd.underlying23
  have hS : Tryd.prog.underlying 25 = some (.struct (Tryd.prog.fieldsOf 25)) := by kernel_rfl
  have hp : Tryd.prog.stoodInHeld 25 = false := by kernel_rfl
  rw [show (10000 : Nat) = 9999 + 1 from rfl, run_equalIn_agg w 9999 25 _ _ hS hp]
  simp only [Program.fieldsOf, Tryd.underlying25]
  go_simp
  by_cases hk : k = k'
  case neg => rw [if_neg hk]; simp [hk]
  rw [if_pos hk]
  by_cases hi : i = i'
  case neg => rw [if_neg hi]; simp [hi]
  rw [if_pos hi]
  by_cases hn : n = n'
  case neg => rw [if_neg hn]; simp [hn]
  rw [if_pos hn]
  by_cases hs : s = s'
  case neg => rw [if_neg hs]; simp [hs]
  rw [if_pos hs]
  by_cases hp : p = p'
  case neg => rw [if_neg hp]; simp [hp]
  rw [if_pos hp]
  by_cases hq : q = q'
  case neg => rw [if_neg hq]; simp [hq]
  rw [if_pos hq]
  by_cases hl : l = l'
  case neg => rw [if_neg hl]; simp [hl]
  rw [if_pos hl]
  by_cases hy : y = y'
  case neg => rw [if_neg hy]; simp [hy]
  rw [if_pos hy]
  subst hk hi hn hs hp hq hl hy
  simp
def sameQ (r d : Q) : Bool := (r.k == d.k) && (r.i == d.i) && (r.n == d.n) && (r.s == d.s) && (r.p == d.p) && (r.q == d.q) && (r.l == d.l) && (r.y == d.y)
theorem sameQ_self (r : Q) : sameQ r r = true := by simp [sameQ]
theorem sameQ_eq {r d : Q} (h : sameQ r d = true) : r = d := by
  obtain ⟨k, i, n, s, p, q, l, y⟩ := r
  obtain ⟨k', i', n', s', p', q', l', y'⟩ := d
  simp only [sameQ, Bool.and_eq_true, beq_iff_eq] at h
  obtain ⟨⟨⟨⟨⟨⟨⟨rfl, rfl⟩, rfl⟩, rfl⟩, rfl⟩, rfl⟩, rfl⟩, rfl⟩ := h
  rfl
theorem sameQ_ne {r d : Q} (h : r ≠ d) : sameQ r d = false := by
  cases e : sameQ r d
  · rfl
  · exact absurd (sameQ_eq e) h
theorem rep_eql (r d : Q) (w : World) : (binOp .eql 25 r.val d.val).run Tryd.prog w = .ok (.bool (sameQ r d)) w := by
  show (binOp .eql 25 (.agg r.cells) (.agg d.cells)).run Tryd.prog w = _
  rw [run_eql_struct]
  unfold Q.cells
  rw [rep_in]
  rfl
theorem rep_neq (r d : Q) (w : World) : (binOp .neq 25 r.val d.val).run Tryd.prog w = .ok (.bool (!sameQ r d)) w := by
  show (binOp .neq 25 (.agg r.cells) (.agg d.cells)).run Tryd.prog w = _
  rw [run_neq_struct]
  unfold Q.cells
  rw [rep_in]
  rfl
set_option maxRecDepth 100000 in
set_option maxHeartbeats 3200000 in
theorem Same_yes (A B : Option Addr) (n ca cb : Nat) (L : List Q) (w : World) (hn : n ≤ 2000000) (ha : n ≤ ca) (hb : n ≤ cb) (hA : Hid (HR w A n L)) (hB : Hid (HR w B n L)) :
    Calls Tryd.prog 20 #[.slice A n ca, .slice B n cb] w fun e w' => e = .returned (.bool true) ∧ ∃ q, w' = w.drewN q := by
  have d0 : ((n : Int) != (n : Int)) = false := by simp
  go_enter Tryd.func20, Tryd.ntmps20
  go_wp2_with fail
  go_loopw [5] (fun i wr => ∃ k : Nat, i = .int .i64 k ∧ k ≤ n ∧ ∃ q, wr = w.drewN q) (fun i _ => (n - intOf i).toNat)
  case atStart => exact ⟨0, rfl, by omega, 0, rfl⟩
  case round =>
    obtain ⟨k, rfl, hk, q, rfl⟩ := hrel
    by_cases hlt : k < n
    · have d1 : decide ((k : Int) < (n : Int)) = true := decide_eq_true (by omega)
      have d3 : (k : Int) < (n : Int) := by omega
      obtain ⟨ba, oa, rfl, c0, c1, c2, c3, c4, c5, c6, c7⟩ := hA.out.2 k hlt
      obtain ⟨bb, ob, rfl, e0, e1, e2, e3, e4, e5, e6, e7⟩ := hB.out.2 k hlt
      obtain ⟨r, er⟩ : ∃ r, L.getD k zeroQ = r := ⟨_, rfl⟩
      rw [er] at c0 c1 c2 c3 c4 c5 c6 c7 e0 e1 e2 e3 e4 e5 e6 e7
      clear er
      have hne : ∀ W, (binOp .neq 25 r.val r.val).run Tryd.prog W = .ok (.bool false) W := fun W => by rw [rep_neq, sameQ_self]; rfl
      obtain ⟨k', i', n', s', p', q', l', y'⟩ := r
      rw [show (Q.mk k' i' n' s' p' q' l' y').val = .agg #[.int .i64 k', .int .i64 i', .int .i64 n', .int .i64 s', .int .i64 p', .int .i64 q', .int .i64 l', .int .i64 y'] from rfl] at hne
      simp only at c0 c1 c2 c3 c4 c5 c6 c7 e0 e1 e2 e3 e4 e5 e6 e7
      go_wp2_with fail
      go_quiet (fail)
      go_wp2_with fail
      go_roundw
      case rel => exact ⟨k + 1, by go_num, by omega, _, rfl⟩
      case measure => simp [intOf]; omega
    · obtain rfl : k = n := by omega
      have d1 : decide ((k : Int) < (k : Int)) = false := by simp
      go_wp2_with fail
      go_ret
      exact ⟨rfl, q, rfl⟩
theorem str_tl (l : List UInt8) : (str l).toList = l := by rw [ByteArray.toList_eq]; simp [str]
set_option maxRecDepth 100000 in
set_option maxHeartbeats 1000000 in
theorem Known_any (w : World) (hT : Hid (Tab w)) : Calls Tryd.prog 15 #[] w fun e w' => e = .returned (.bool true) ∧ Below w.heap.size w w' := by
  have hX : Hid (textQ ⟨3, 7, 0, 1, 100, 5, 2, 0⟩ = [116, 114, 97, 100, 101, 32, 55, 32, 48, 32, 49, 32, 49, 48, 48, 32, 53, 32, 50, 32, 48]) := Lib.hid (by
    unfold textQ
    rw [textTo_next, textTo_next, textTo_next, textTo_next, textTo_next, textTo_next, textTo_next, textTo_zero]
    decide +kernel)
  have hP := Lib.hid (PText_any ⟨3, 7, 0, 1, 100, 5, 2, 0⟩ w (by constructor <;> (constructor <;> decide)) hT)
  rw [hX.out] at hP
  rw [show (Q.mk 3 7 0 1 100 5 2 0).val = .agg #[.int .i64 3, .int .i64 7, .int .i64 0, .int .i64 1, .int .i64 100, .int .i64 5, .int .i64 2, .int .i64 0] from rfl] at hP
  go_enter Tryd.func15, Tryd.ntmps15
  go_wp2_with fail
  refine hP.out.mono ?_
  rintro e w1 ⟨rfl, b1⟩
  have b1 := Lib.hid b1
  have hq : (str [116, 114, 97, 100, 101, 32, 55, 32, 48, 32, 49, 32, 49, 48, 48, 32, 53, 32, 50, 32, 48]).toList = [116, 114, 97, 100, 101, 32, 55, 32, 48, 32, 49, 32, 49, 48, 48, 32, 53, 32, 50, 32, 48] := str_tl _
  go_wp2_with fail
  go_ret
  exact ⟨rfl, b1.out⟩
set_option maxRecDepth 100000 in
set_option maxHeartbeats 3200000 in
theorem LRead_any (A : Option Addr) (n0 cap : Nat) (l : List UInt8) (w : World) (hl : n0 ≤ 1000000) (h : Hid (Src w A n0 cap l)) :
    Calls Tryd.prog 12 #[.slice A n0 cap] w fun e w' => e = .returned (.bool true) ∧ Below w.heap.size w w' := by
  have hp := PDecode_any A n0 cap l w h.out.nmax (Lib.hid h.out.hb)
  have hr := fun W (H : Hid (Src W A n0 cap l)) => RDecode_any A n0 cap l W H
  have hp2 := Lib.hid (fun W (H : Hid (Src W A n0 cap l)) => PRead_all A n0 cap l W hl h.out.ncap h.out.cmax h.out.none0 (Lib.hid H.out.hb))
  have hr2 := Lib.hid (fun W (H : Hid (Src W A n0 cap l)) => RRead_all A n0 cap l W hl h.out.ncap h.out.cmax h.out.none0 (Lib.hid H.out.hb))
  have hll := readL_len l
  have hl0 := h.out.hb.1
  obtain ⟨dc, edc⟩ : ∃ v, decQ l = v := ⟨_, rfl⟩
  obtain ⟨E, eE⟩ : ∃ v, decE l = v := ⟨_, rfl⟩
  rw [edc, eE] at hp hr
  clear edc eE
  obtain ⟨X, z, eX⟩ : ∃ X z, readL l = (X, z) := ⟨_, _, rfl⟩
  rw [eX] at hp2 hr2 hll
  clear eX
  have heq : ∀ W, (binOp .eql 25 dc.val dc.val).run Tryd.prog W = .ok (.bool true) W := fun W => by rw [rep_eql, sameQ_self]
  obtain ⟨k, i, n, s, p, q, lz, y⟩ := dc
  rw [show (Q.mk k i n s p q lz y).val = .agg #[.int .i64 k, .int .i64 i, .int .i64 n, .int .i64 s, .int .i64 p, .int .i64 q, .int .i64 lz, .int .i64 y] from rfl] at hp hr heq
  have hp := Lib.hid hp
  have hr := Lib.hid hr
  have ez : ((z : Int) == (z : Int)) = true := by simp
  have eEE : ((E : Int) == (E : Int)) = true := by simp
  go_enter Tryd.func12, Tryd.ntmps12
  go_wp2_with fail
  refine hp.out.mono ?_
  rintro e w1 ⟨rfl, b1⟩
  have b1 := Lib.hid b1
  go_upto_region 2 with (fail)
  obtain ⟨w2, ew⟩ : ∃ W, w1.alloc (.cells #[.int .i64 k, .int .i64 i, .int .i64 n, .int .i64 s, .int .i64 p, .int .i64 q, .int .i64 lz, .int .i64 y] 25) = W := ⟨_, rfl⟩
  obtain ⟨cb, ecb⟩ : ∃ cb, w1.heap.size = cb := ⟨_, rfl⟩
  have B2 : Hid (Below w.heap.size w w2) := Lib.hid (by rw [← ew]; exact b1.out.alloc b1.out.size _)
  have C2 : Hid (w2.heap[cb]? = some (.cells #[.int .i64 k, .int .i64 i, .int .i64 n, .int .i64 s, .int .i64 p, .int .i64 q, .int .i64 lz, .int .i64 y] 25 (0, 0))) := Lib.hid (by rw [← ew, ← ecb]; exact heap_alloc_new w1 _)
  rw [ew, ecb]
  clear ew ecb b1
  go_wp2_with fail
  refine (hr.out w2 (Lib.hid (h.out.below B2.out))).mono ?_
  rintro e w3 ⟨rfl, b3⟩
  have C3 := Lib.hid ((b3.block cb (Array.getElem?_eq_some_iff.1 C2.out).1).trans C2.out)
  have B3 := Lib.hid (B2.out.trans (b3.mono B2.out.size))
  go_upto_region 3 with (fail)
  obtain ⟨w4, ew⟩ : ∃ W, w3.alloc (.cells #[.int .i64 k, .int .i64 i, .int .i64 n, .int .i64 s, .int .i64 p, .int .i64 q, .int .i64 lz, .int .i64 y] 25) = W := ⟨_, rfl⟩
  obtain ⟨db, edb⟩ : ∃ cb, w3.heap.size = cb := ⟨_, rfl⟩
  have B4 : Hid (Below w.heap.size w w4) := Lib.hid (by rw [← ew]; exact B3.out.alloc B3.out.size _)
  have C4 : Hid (w4.heap[cb]? = some (.cells #[.int .i64 k, .int .i64 i, .int .i64 n, .int .i64 s, .int .i64 p, .int .i64 q, .int .i64 lz, .int .i64 y] 25 (0, 0))) := Lib.hid (by rw [← ew]; exact (heap_alloc_old _ _ (Array.getElem?_eq_some_iff.1 C3.out).1).trans C3.out)
  have D4 : Hid (w4.heap[db]? = some (.cells #[.int .i64 k, .int .i64 i, .int .i64 n, .int .i64 s, .int .i64 p, .int .i64 q, .int .i64 lz, .int .i64 y] 25 (0, 0))) := Lib.hid (by rw [← ew, ← edb]; exact heap_alloc_new w3 _)
  rw [ew, edb]
  clear ew edb C3 B3 C2 B2
  go_wp2_with fail
  refine (hp2.out w4 (Lib.hid (h.out.below B4.out))).mono ?_
  rintro e w5 ⟨v5, rfl, R5, b5⟩
  have B5 := Lib.hid (below_up B4.out b5)
  have R5 := Lib.hid R5
  go_wp2_with fail
  refine (hr2.out w5 (Lib.hid (h.out.below B5.out))).mono ?_
  rintro e w6 ⟨v6, rfl, R6, b6⟩
  have B6 := Lib.hid (below_up B5.out b6)
  have C6 := Lib.hid ((b6.block cb (by have := (Array.getElem?_eq_some_iff.1 C4.out).1; have := b5.size; omega)).trans ((b5.block cb (Array.getElem?_eq_some_iff.1 C4.out).1).trans C4.out))
  have D6 := Lib.hid ((b6.block db (by have := (Array.getElem?_eq_some_iff.1 D4.out).1; have := b5.size; omega)).trans ((b5.block db (Array.getElem?_eq_some_iff.1 D4.out).1).trans D4.out))
  obtain ⟨A5, n5, c5, rfl, H5, l5, m5, -, k5⟩ := (R5.out.keep b6).slice
  obtain ⟨A6, n6, c6, rfl, H6, l6, m6, -, k6⟩ := R6.slice
  obtain rfl : n6 = n5 := by omega
  have H5 := Lib.hid H5
  have H6 := Lib.hid H6
  clear b5 b6 R5 R6 B4 B5 C4 D4
  obtain ⟨j0, j1, j2, j3, j4, j5, j6, j7⟩ := rep_at C6.out
  obtain ⟨m0, m1, m2, m3, m4, m5', m6', m7⟩ := rep_at D6.out
  go_wp2_with fail
  refine (Same_yes A5 A6 n6 c5 c6 X w6 (by omega) l5 l6 H5 H6).mono ?_
  rintro e w7 ⟨rfl, nq, rfl⟩
  have B7 : Hid (Below w.heap.size w (w6.drewN nq)) := Lib.hid (below_drewN B6.out nq)
  go_wp2_with fail
  go_ret
  exact ⟨rfl, B7.out⟩
end Go.Proofs.YtjhfgajhmenboaaDoor
