/-
  What the laws of commands share: when two commands are the same; read and known.
-/
import Derived.Test.YtdbaphmhfoajgaaCmdTwo
import Derived.Tactics
import Derived.Test.YtdbaphmhfoajgaaCmdDecR
import Derived.Test.YtdbaphmhfoajgaaCmdVals
import Derived.Test.YtdbaphmhfoajgaaCmdEncP
import Derived.Test.YtdbaphmhfoajgaaCmdEncRef
import Derived.Test.YtdbaphmhfoajgaaCmdOf0
import Derived.Laws.BitsAllLaws
import Derived.IntWalk
namespace Go.Proofs.Ytdbaphmhfoajgaa
open Go.RowKit
set_option linter.unusedVariables false
set_option linter.unusedSimpArgs false

set_option maxRecDepth 100000 in
set_option maxHeartbeats 1000000 in
theorem cmd_eql (k i n s p q l t k' i' n' s' p' q' l' t' : Int) (S S' : List UInt8) (w : World) :
    (binOp .eql 23 (.agg #[.int .i64 k, .int .i64 i, .int .i64 n, .int .i64 s, .int .i64 p, .int .i64 q, .int .i64 l, .int .i64 t, .string (str S)]) (.agg #[.int .i64 k', .int .i64 i', .int .i64 n', .int .i64 s', .int .i64 p', .int .i64 q', .int .i64 l', .int .i64 t', .string (str S')])).run Try.prog w = .ok (.bool ((k == k') && (i == i') && (n == n') && (s == s') && (p == p') && (q == q') && (l == l') && (t == t') && ((str S).toList == (str S').toList))) w := by
  have u1 := Try.underlying3
  have u2 := Try.underlying2
  have u3 := Try.underlying9
  have hS : Try.prog.underlying 23 = some (.struct (Try.prog.fieldsOf 23)) := by kernel_rfl
  have hp : Try.prog.stoodInHeld 23 = false := by kernel_rfl
  rw [run_eql_struct, show (10000 : Nat) = 9999 + 1 from rfl, run_equalIn_agg w 9999 23 _ _ hS hp]
  simp only [Program.fieldsOf, Try.underlying23]
  go_simp
  by_cases hk : k = k'
  case neg => rw [if_neg hk]; simp [hk]
  rw [if_pos hk]
  by_cases hi : i = i'
  case neg => rw [if_neg hi]; simp [hi]
  rw [if_pos hi]
  by_cases hn : n = n'
  case neg => rw [if_neg hn]; simp [hn]
  rw [if_pos hn]
  by_cases hs : s = s'
  case neg => rw [if_neg hs]; simp [hs]
  rw [if_pos hs]
  by_cases hp : p = p'
  case neg => rw [if_neg hp]; simp [hp]
  rw [if_pos hp]
  by_cases hq : q = q'
  case neg => rw [if_neg hq]; simp [hq]
  rw [if_pos hq]
  by_cases hl : l = l'
  case neg => rw [if_neg hl]; simp [hl]
  rw [if_pos hl]
  by_cases ht : t = t'
  case neg => rw [if_neg ht]; simp [ht]
  rw [if_pos ht]
  by_cases hS' : (str S).toList = (str S').toList
  case neg => rw [if_neg hS']; simp [hS']
  rw [if_pos hS']
  subst hk hi hn hs hp hq hl ht
  simp [hS']
set_option maxRecDepth 100000 in
set_option maxHeartbeats 1000000 in
theorem ord_eql (i n s p q l t i' n' s' p' q' l' t' : Int) (S S' : List UInt8) (w : World) :
    (binOp .eql 48 (.agg #[.int .i64 i, .int .i64 n, .int .i64 s, .int .i64 p, .int .i64 q, .int .i64 l, .int .i64 t, .string (str S)]) (.agg #[.int .i64 i', .int .i64 n', .int .i64 s', .int .i64 p', .int .i64 q', .int .i64 l', .int .i64 t', .string (str S')])).run Try.prog w = .ok (.bool ((i == i') && (n == n') && (s == s') && (p == p') && (q == q') && (l == l') && (t == t') && ((str S).toList == (str S').toList))) w := by
  have u1 := Try.underlying3
  have u2 := Try.underlying2
  have u3 := Try.underlying9
  have hS : Try.prog.underlying 48 = some (.struct (Try.prog.fieldsOf 48)) := by kernel_rfl
  have hp : Try.prog.stoodInHeld 48 = false := by kernel_rfl
  rw [run_eql_struct, show (10000 : Nat) = 9999 + 1 from rfl, run_equalIn_agg w 9999 48 _ _ hS hp]
  simp only [Program.fieldsOf, Try.underlying48]
  go_simp
  by_cases hi : i = i'
  case neg => rw [if_neg hi]; simp [hi]
  rw [if_pos hi]
  by_cases hn : n = n'
  case neg => rw [if_neg hn]; simp [hn]
  rw [if_pos hn]
  by_cases hs : s = s'
  case neg => rw [if_neg hs]; simp [hs]
  rw [if_pos hs]
  by_cases hp : p = p'
  case neg => rw [if_neg hp]; simp [hp]
  rw [if_pos hp]
  by_cases hq : q = q'
  case neg => rw [if_neg hq]; simp [hq]
  rw [if_pos hq]
  by_cases hl : l = l'
  case neg => rw [if_neg hl]; simp [hl]
  rw [if_pos hl]
  by_cases ht : t = t'
  case neg => rw [if_neg ht]; simp [ht]
  rw [if_pos ht]
  by_cases hS' : (str S).toList = (str S').toList
  case neg => rw [if_neg hS']; simp [hS']
  rw [if_pos hS']
  subst hi hn hs hp hq hl ht
  simp [hS']
/-- Are two commands the same? -/
def sameC (c d : C) : Bool := (c.k == d.k) && (c.i == d.i) && (c.n == d.n) && (c.s == d.s) && (c.p == d.p) && (c.q == d.q) && (c.l == d.l) && (c.t == d.t) && ((str c.S).toList == (str d.S).toList)
theorem strl_inj {a b : List UInt8} (h : (str a).toList = (str b).toList) : a = b := by
  rw [ByteArray.toList_eq, ByteArray.toList_eq] at h
  exact h
theorem sameC_self (c : C) : sameC c c = true := by simp [sameC]
theorem sameC_eq {c d : C} (h : sameC c d = true) : c = d := by
  obtain ⟨k, i, n, s, p, q, l, t, S⟩ := c
  obtain ⟨k', i', n', s', p', q', l', t', S'⟩ := d
  simp only [sameC, Bool.and_eq_true, beq_iff_eq] at h
  obtain ⟨⟨⟨⟨⟨⟨⟨⟨rfl, rfl⟩, rfl⟩, rfl⟩, rfl⟩, rfl⟩, rfl⟩, rfl⟩, h9⟩ := h
  rw [strl_inj h9]
set_option maxRecDepth 100000 in
set_option maxHeartbeats 1000000 in
theorem LRead_any (A : Option Addr) (n0 cap : Nat) (l : List UInt8) (w : World) (h : Hid (Src w A n0 cap l)) :
    Calls Try.prog 14 #[.slice A n0 cap] w fun e w' => e = .returned (.bool true) ∧ Below w.heap.size w w' := by
  have hp := PDecode_any A n0 cap l w h.out.nmax (Lib.hid h.out.hb)
  have hr := fun W (H : Hid (Src W A n0 cap l)) => RDecode_any A n0 cap l W H
  obtain ⟨dc, edc⟩ : ∃ v, (decC l).1 = v := ⟨_, rfl⟩
  obtain ⟨E, eE⟩ : ∃ v, (decC l).2 = v := ⟨_, rfl⟩
  rw [edc, eE] at hp hr
  clear edc eE
  obtain ⟨K, i, n, s, p, q, lz, t, S⟩ := dc
  rw [show (C.mk K i n s p q lz t S).val = .agg #[.int .i64 K, .int .i64 i, .int .i64 n, .int .i64 s, .int .i64 p, .int .i64 q, .int .i64 lz, .int .i64 t, .string (str S)] from rfl] at hp hr
  have hp := Lib.hid hp
  have hr := Lib.hid hr
  go_enter Try.func14, Try.ntmps14
  go_wp2_with fail
  refine hp.out.mono ?_
  rintro e w1 ⟨rfl, b1⟩
  have b1 := Lib.hid b1
  go_upto_region 2 with (fail)
  obtain ⟨w2, ew⟩ : ∃ W, w1.alloc (.cells #[.int .i64 K, .int .i64 i, .int .i64 n, .int .i64 s, .int .i64 p, .int .i64 q, .int .i64 lz, .int .i64 t, .string (str S)] 23) = W := ⟨_, rfl⟩
  obtain ⟨cb, ecb⟩ : ∃ cb, w1.heap.size = cb := ⟨_, rfl⟩
  have B2 : Hid (Below w.heap.size w w2) := Lib.hid (by rw [← ew]; exact b1.out.alloc b1.out.size _)
  have C2 : Hid (w2.heap[cb]? = some (.cells #[.int .i64 K, .int .i64 i, .int .i64 n, .int .i64 s, .int .i64 p, .int .i64 q, .int .i64 lz, .int .i64 t, .string (str S)] 23 (0, 0))) := Lib.hid (by rw [← ew, ← ecb]; exact heap_alloc_new w1 _)
  rw [ew, ecb]
  clear ew ecb b1
  go_wp2_with fail
  refine (hr.out w2 (Lib.hid (h.out.below B2.out))).mono ?_
  rintro e w3 ⟨rfl, b3⟩
  have C3 := Lib.hid ((b3.block cb (Array.getElem?_eq_some_iff.1 C2.out).1).trans C2.out)
  have B3 := Lib.hid (B2.out.trans (b3.mono B2.out.size))
  go_upto_region 3 with (fail)
  obtain ⟨w4, ew⟩ : ∃ W, w3.alloc (.cells #[.int .i64 K, .int .i64 i, .int .i64 n, .int .i64 s, .int .i64 p, .int .i64 q, .int .i64 lz, .int .i64 t, .string (str S)] 23) = W := ⟨_, rfl⟩
  obtain ⟨db, edb⟩ : ∃ cb, w3.heap.size = cb := ⟨_, rfl⟩
  have B4 : Hid (Below w.heap.size w w4) := Lib.hid (by rw [← ew]; exact B3.out.alloc B3.out.size _)
  have C4 : Hid (w4.heap[cb]? = some (.cells #[.int .i64 K, .int .i64 i, .int .i64 n, .int .i64 s, .int .i64 p, .int .i64 q, .int .i64 lz, .int .i64 t, .string (str S)] 23 (0, 0))) := Lib.hid (by rw [← ew]; exact (heap_alloc_old _ _ (Array.getElem?_eq_some_iff.1 C3.out).1).trans C3.out)
  have D4 : Hid (w4.heap[db]? = some (.cells #[.int .i64 K, .int .i64 i, .int .i64 n, .int .i64 s, .int .i64 p, .int .i64 q, .int .i64 lz, .int .i64 t, .string (str S)] 23 (0, 0))) := Lib.hid (by rw [← ew, ← edb]; exact heap_alloc_new w3 _)
  rw [ew, edb]
  clear ew edb C3 B3 C2 B2
  obtain ⟨j0, j1, j2, j3, j4, j5, j6, j7, j8⟩ := cmd_at C4.out
  obtain ⟨m0, m1, m2, m3, m4, m5, m6, m7, m8⟩ := cmd_at D4.out
  have heq : ∀ W, (binOp .eql 23 (.agg #[.int .i64 K, .int .i64 i, .int .i64 n, .int .i64 s, .int .i64 p, .int .i64 q, .int .i64 lz, .int .i64 t, .string (str S)]) (.agg #[.int .i64 K, .int .i64 i, .int .i64 n, .int .i64 s, .int .i64 p, .int .i64 q, .int .i64 lz, .int .i64 t, .string (str S)])).run Try.prog W = .ok (.bool true) W := fun W => by rw [cmd_eql]; simp
  go_wp2_with fail
  go_ret
  exact ⟨rfl, B4.out⟩
set_option maxRecDepth 100000 in
set_option maxHeartbeats 1000000 in
theorem LKnown_any (w : World) :
    Calls Try.prog 21 #[] w fun e w' => e = .returned (.bool true) ∧ Below w.heap.size w w' := by
  have nil0 := str_none
  go_enter Try.func21, Try.ntmps21
  go_wp2_with fail
  refine (Withdrawal_any 7 _).mono ?_
  rintro e w1 ⟨rfl, b1⟩
  have b1 := Lib.hid b1
  go_wp2_with fail
  refine (Of_withdrawal 7 _).mono ?_
  rintro e w2 ⟨rfl, b2⟩
  have B2 := Lib.hid (b1.out.trans (b2.mono b1.out.size))
  clear b1 b2
  go_upto_region 2 with (fail)
  obtain ⟨w3, ew⟩ : ∃ W, w2.alloc (.cells #[.int .i64 2, .int .i64 7, .int .i64 0, .int .i64 0, .int .i64 0, .int .i64 0, .int .i64 0, .int .i64 0, .string (str [])] 23) = W := ⟨_, rfl⟩
  obtain ⟨cb, ecb⟩ : ∃ cb, w2.heap.size = cb := ⟨_, rfl⟩
  have B3 : Hid (Below w.heap.size w w3) := Lib.hid (by rw [← ew]; exact B2.out.alloc B2.out.size _)
  have C3 : Hid (w3.heap[cb]? = some (.cells #[.int .i64 2, .int .i64 7, .int .i64 0, .int .i64 0, .int .i64 0, .int .i64 0, .int .i64 0, .int .i64 0, .string (str [])] 23 (0, 0))) := Lib.hid (by rw [← ew, ← ecb]; exact heap_alloc_new w2 _)
  rw [ew, ecb]
  clear ew ecb B2
  go_wp2_with fail
  refine (Back_none 9 0 0 0 0 0 0 0 [] _ (by decide) (by decide) (by decide) (by decide)).mono ?_
  rintro e w4 ⟨rfl, b4⟩
  have B4 := Lib.hid (B3.out.trans (b4.mono B3.out.size))
  have C4 := Lib.hid ((b4.block cb (Array.getElem?_eq_some_iff.1 C3.out).1).trans C3.out)
  clear b4 B3 C3
  go_wp2_with fail
  refine (Of_none _).mono ?_
  rintro e w5 ⟨rfl, b5⟩
  have B5 := Lib.hid (B4.out.trans (b5.mono B4.out.size))
  have C5 := Lib.hid ((b5.block cb (Array.getElem?_eq_some_iff.1 C4.out).1).trans C4.out)
  clear b5 B4 C4
  go_upto_region 3 with (fail)
  obtain ⟨w6, ew⟩ : ∃ W, w5.alloc (.cells #[.int .i64 0, .int .i64 0, .int .i64 0, .int .i64 0, .int .i64 0, .int .i64 0, .int .i64 0, .int .i64 0, .string (str [])] 23) = W := ⟨_, rfl⟩
  have B6 : Hid (Below w.heap.size w w6) := Lib.hid (by rw [← ew]; exact B5.out.alloc B5.out.size _)
  have C6 : Hid (w6.heap[cb]? = some (.cells #[.int .i64 2, .int .i64 7, .int .i64 0, .int .i64 0, .int .i64 0, .int .i64 0, .int .i64 0, .int .i64 0, .string (str [])] 23 (0, 0))) := Lib.hid (by rw [← ew]; exact (heap_alloc_old _ _ (Array.getElem?_eq_some_iff.1 C5.out).1).trans C5.out)
  rw [ew]
  clear ew B5 C5
  go_wp2_with fail
  refine (Encode_bad 2 0 0 0 0 0 0 0 [] _ 1 (by decide) (by decide) (fun h => absurd h (by decide))).mono ?_
  rintro e w7 ⟨rfl, b7⟩
  have B7 := Lib.hid (B6.out.trans (b7.mono B6.out.size))
  have C7 := (b7.block cb (Array.getElem?_eq_some_iff.1 C6.out).1).trans C6.out
  obtain ⟨j0, j1, j2, j3, j4, j5, j6, j7, j8⟩ := cmd_at C7
  replace C7 := Lib.hid C7
  clear b7 B6 C6
  go_wp2_with fail
  go_ret
  exact ⟨rfl, B7.out⟩
theorem encC_len (c : C) : (encC c).length ≤ 300 := by
  unfold encC
  have := textL_len c.S
  split
  · simp only [List.length_append, List.length_nil, longL_len, List.length_singleton]; omega
  · split
    · simp only [List.length_append, List.length_nil, longL_len, List.length_singleton]; omega
    · split <;> (simp only [List.length_append, List.length_nil, longL_len, List.length_singleton]; omega)
theorem encR_len (c : C) : (encR c).length ≤ 300 := by
  unfold encR
  split
  · exact encC_len c
  · simp
theorem Src.str {w : World} {A : Option Addr} {n cap : Nat} {l : List UInt8} (h : Src w A n cap l) : (convert 27 9 (.slice A n cap)).run Try.prog w = .ok (.string (str l)) w := by
  have e := h.hb.1
  subst e
  exact h.hb.string cap
theorem rb_keep {w w' : World} {base : Nat} {v : Value} {l : List UInt8} (h : RB w base v l) (hb : Below w.heap.size w w') : RB w' base v l := h.only (only_below hb) (fun _ _ e => e)
theorem Src.take {w : World} {A : Option Addr} {n cap : Nat} {l : List UInt8} (m : Nat) (hb : HB w A n l) (at' : ∀ ad, A = some ad → ad.block < w.heap.size ∧ ad.spot = none) (h1 : n ≤ cap) (h2 : cap ≤ 9223372036854775807) (h3 : A = none → cap = 0) (hm : m ≤ 1000000) : Src w A (min n m) cap (l.take m) := by
  refine ⟨?_, at', by omega, h2, by omega, h3⟩
  by_cases h : m ≤ n
  · rw [Nat.min_eq_right h]; exact hb.take h
  · rw [Nat.min_eq_left (by omega), List.take_of_length_le (by rw [hb.1]; omega)]; exact hb
theorem take60 (S : List UInt8) : (S.take 60).length ≤ 60 := by rw [List.length_take]; omega
theorem rb_first {w : World} {base n cap : Nat} {A : Option Addr} {l : List UInt8} (h : RB w base (.slice A (n + 1) cap) l) (hl : l.length = n + 1) : ∃ g, A = some ⟨g, 0, none⟩ ∧ base ≤ g := by
  rcases h.2 with ⟨e1, e2⟩ | ⟨g, cap', cur, e1, hg, _⟩
  · omega
  · injection e1 with e1 _ _
    exact ⟨g, e1, hg⟩
theorem rb_first' {w : World} {base n cap : Nat} {A : Option Addr} {l : List UInt8} (h : RB w base (.slice A n cap) l) (hl : 0 < l.length) : ∃ g, A = some ⟨g, 0, none⟩ ∧ base ≤ g := by
  rcases h.2 with ⟨e1, e2⟩ | ⟨g, cap', cur, e1, hg, _⟩
  · omega
  · injection e1 with e1 _ _
    exact ⟨g, e1, hg⟩
theorem u8_xor_byte (a b : UInt8) : bits .xor .u8 (a.toNat : Int) (b.toNat : Int) = ((a ^^^ b).toNat : Int) := by
  rw [u8_xor_nat _ _ (by have := a.toNat_lt; omega) (by have := b.toNat_lt; omega), UInt8.toNat_xor]
end Go.Proofs.Ytdbaphmhfoajgaa
