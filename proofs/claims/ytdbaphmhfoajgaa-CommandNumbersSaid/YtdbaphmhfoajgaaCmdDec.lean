/-
  Contract: Decode, of the program.
-/
import Derived.Test.YtdbaphmhfoajgaaCmdReadP
import Derived.Test.YtdbaphmhfoajgaaCmdRight
namespace Go.Proofs.Ytdbaphmhfoajgaa
open Go.RowKit
set_option linter.unusedVariables false
set_option linter.unusedSimpArgs false

theorem rdText_len (l : List UInt8) (k y : Nat) : (rdText l k y).1.length ≤ 255 := by
  unfold rdText
  have h1 := rdTake_len l (rdTake l k y 1).2.1 (rdTake l k y 1).2.2 (headN (rdTake l k y 1).1)
  have h2 := headN_le (rdTake l k y 1).1
  omega
theorem readV_short (l : List UInt8) (k y : Nat) (z : Int) : (readV l k y z).S.length ≤ 255 := by
  by_cases h1 : z = 1
  · subst h1
    have e : (readV l k y 1).S = (dX l k y).1 := by rw [readV_1]
    rw [e]; unfold dX; exact rdText_len _ _ _
  · by_cases h2 : z = 2
    · subst h2
      have e : (readV l k y 2).S = [] := by rw [readV_2]
      rw [e]; exact Nat.zero_le _
    · by_cases h3 : z = 3
      · subst h3
        have e : (readV l k y 3).S = [] := by rw [readV_3]
        rw [e]; exact Nat.zero_le _
      · have e := congrArg C.S (show readV l k y z = _ from (if_neg h1).trans ((if_neg h2).trans (if_neg h3)))
        rw [e]; exact Nat.zero_le _
theorem bodyV_short (l : List UInt8) : (bodyV l).k = 1 → (bodyV l).S.length ≤ 140737488355328 := fun _ => Nat.le_trans (readV_short l _ _ _) (by omega)
set_option maxRecDepth 100000 in
set_option maxHeartbeats 1000000 in
theorem PDec_kind (A : Option Addr) (n0 cap : Nat) (l : List UInt8) (w : World) (hn : n0 ≤ 140737488355328) (h : Hid (HB w A n0 l)) (hz : kindZ l < 1 ∨ 4 < kindZ l) :
    Calls Try.prog 27 #[.slice A n0 cap] w fun e w' => e = .returned (.tuple #[zeroC.val, .int .i64 31]) ∧ Below w.heap.size w w' := by
  obtain ⟨w0, ew⟩ : ∃ W, w.alloc (.cells #[.int .i64 0, .int .i64 0, .int .i64 0, .int .i64 0, .int .i64 0, .int .i64 0, .int .i64 0, .int .i64 0, .string { data := #[] }] 23) = W := ⟨_, rfl⟩
  have S0 : Hid (HB w0 A n0 l) := Lib.hid (by rw [← ew]; exact h.out.alloc _)
  have B0 : Hid (Below w.heap.size w w0) := Lib.hid (by rw [← ew]; exact (Below.refl _ w).alloc (Nat.le_refl _) _)
  have H0 : Hid (w0.heap[w.heap.size]? = some (.cells #[.int .i64 0, .int .i64 0, .int .i64 0, .int .i64 0, .int .i64 0, .int .i64 0, .int .i64 0, .int .i64 0, .string (str [])] 23 (0, 0))) := Lib.hid (by rw [← ew]; exact heap_alloc_new w _)
  replace ew := Lib.hid ew
  obtain ⟨rb, erb⟩ : ∃ rb, w.heap.size = rb := ⟨_, rfl⟩
  rw [erb] at H0
  replace erb := Lib.hid erb
  have hrw : w.heap.size ≤ rb := by have := erb.out; omega
  have hz := Lib.hid hz
  go_enter Try.func27, Try.ntmps27
  go_wp2_with fail
  rw [ew.out, erb.out]
  refine (NewReader_any A n0 cap l w0 hn S0).mono ?_
  rintro e w1 ⟨c, g, rfl, P1, hg0, hgc, b1⟩
  have hr0 := (Array.getElem?_eq_some_iff.1 H0.out).1
  have hrc : rb < c := by omega
  have H1 := Lib.hid ((b1.block rb hr0).trans H0.out)
  have B1 := Lib.hid (B0.out.trans (b1.mono B0.out.size))
  have P1 := Lib.hid P1
  clear b1 S0 H0 B0 ew h
  go_wp2_with fail
  refine (PByte_any c g l 0 0 w1 P1).mono ?_
  rintro e w2 ⟨rfl, P2, G2⟩
  have H2 := Lib.hid ((G2.block rb (Array.getElem?_eq_some_iff.1 H1.out).1 (fun e => by injection e with e; omega)).trans H1.out)
  have hc1 : w.heap.size ≤ c := by omega
  have B2 := Lib.hid (B1.out.trans ((only_grown G2).below B1.out.size (fun j hj e => by injection e with e; omega)))
  replace P2 : Hid (PR c g l (kindP l).1 (kindP l).2 w2) := Lib.hid P2
  obtain ⟨z, ez⟩ : ∃ z : Int, kindZ l = z := ⟨_, rfl⟩
  rw [show (((headN (rdTake l 0 0 1).1 : Nat)) : Int) = z from ez]
  clear P1 H1 B1 G2
  go_wp2_with fail
  refine (IsKind_no z _ (by rw [← ez]; exact hz.out)).mono ?_
  rintro e w2 ⟨rfl, rfl⟩
  have H9 := H2
  have B9 := B2
  obtain ⟨fr0, fr1, fr2, fr3, fr4, fr5, fr6, fr7, fr8, m0, m1, m2, m3, m4, m5, m6, m7, m8⟩ := block9 H9.out
  go_wp2_with fail
  rw [set9 _ _ _ _ _ _ _ _ _ H9.out]
  (try simp only [Exit.inBlock, Exit.then])
  refine bodyPost_ret (results_cell_row_tmp rfl _ _ (rb) 23 _ (0, 0) _ rfl (setRow_heap _ _ _ _ _ _ H9.out) rfl rfl rfl) rfl ?_
  exact ⟨rfl, below_setRow B9.out hrw _⟩
set_option maxRecDepth 100000 in
set_option maxHeartbeats 1000000 in
theorem PDec_end (A : Option Addr) (n0 cap : Nat) (l : List UInt8) (w : World) (hn : n0 ≤ 140737488355328) (h : Hid (HB w A n0 l)) (z1 : 1 ≤ kindZ l) (z2 : kindZ l ≤ 4) (hE : rdEnd l (bodyP l).1 (bodyP l).2 ≠ 0) :
    Calls Try.prog 27 #[.slice A n0 cap] w fun e w' => e = .returned (.tuple #[zeroC.val, .int .i64 12]) ∧ Below w.heap.size w w' := by
  obtain ⟨w0, ew⟩ : ∃ W, w.alloc (.cells #[.int .i64 0, .int .i64 0, .int .i64 0, .int .i64 0, .int .i64 0, .int .i64 0, .int .i64 0, .int .i64 0, .string { data := #[] }] 23) = W := ⟨_, rfl⟩
  have S0 : Hid (HB w0 A n0 l) := Lib.hid (by rw [← ew]; exact h.out.alloc _)
  have B0 : Hid (Below w.heap.size w w0) := Lib.hid (by rw [← ew]; exact (Below.refl _ w).alloc (Nat.le_refl _) _)
  have H0 : Hid (w0.heap[w.heap.size]? = some (.cells #[.int .i64 0, .int .i64 0, .int .i64 0, .int .i64 0, .int .i64 0, .int .i64 0, .int .i64 0, .int .i64 0, .string (str [])] 23 (0, 0))) := Lib.hid (by rw [← ew]; exact heap_alloc_new w _)
  replace ew := Lib.hid ew
  obtain ⟨rb, erb⟩ : ∃ rb, w.heap.size = rb := ⟨_, rfl⟩
  rw [erb] at H0
  replace erb := Lib.hid erb
  have hrw : w.heap.size ≤ rb := by have := erb.out; omega
  have z1 := Lib.hid z1
  have z2 := Lib.hid z2
  have hE := Lib.hid hE
  go_enter Try.func27, Try.ntmps27
  go_wp2_with fail
  rw [ew.out, erb.out]
  refine (NewReader_any A n0 cap l w0 hn S0).mono ?_
  rintro e w1 ⟨c, g, rfl, P1, hg0, hgc, b1⟩
  have hr0 := (Array.getElem?_eq_some_iff.1 H0.out).1
  have hrc : rb < c := by omega
  have H1 := Lib.hid ((b1.block rb hr0).trans H0.out)
  have B1 := Lib.hid (B0.out.trans (b1.mono B0.out.size))
  have P1 := Lib.hid P1
  clear b1 S0 H0 B0 ew h
  go_wp2_with fail
  refine (PByte_any c g l 0 0 w1 P1).mono ?_
  rintro e w2 ⟨rfl, P2, G2⟩
  have H2 := Lib.hid ((G2.block rb (Array.getElem?_eq_some_iff.1 H1.out).1 (fun e => by injection e with e; omega)).trans H1.out)
  have hc1 : w.heap.size ≤ c := by omega
  have B2 := Lib.hid (B1.out.trans ((only_grown G2).below B1.out.size (fun j hj e => by injection e with e; omega)))
  replace P2 : Hid (PR c g l (kindP l).1 (kindP l).2 w2) := Lib.hid P2
  obtain ⟨z, ez⟩ : ∃ z : Int, kindZ l = z := ⟨_, rfl⟩
  rw [show (((headN (rdTake l 0 0 1).1 : Nat)) : Int) = z from ez]
  clear P1 H1 B1 G2
  rw [ez] at z1 z2
  go_wp2_with fail
  refine (IsKind_yes z _ z1.out z2.out).mono ?_
  rintro e w2 ⟨rfl, rfl⟩
  go_wp2_with fail
  refine (PRead_any c g l (kindP l).1 (kindP l).2 z w2 P2 hgc z1.out z2.out).mono ?_
  rintro e w3 ⟨rfl, P3, O3⟩
  have H3 := Lib.hid ((O3.block rb (Array.getElem?_eq_some_iff.1 H2.out).1 (fun e => by have e : rb = c := e; omega)).trans H2.out)
  have B3 := Lib.hid (B2.out.trans (O3.below B2.out.size (fun j hj e => by have e : j = c := e; omega)))
  rw [show readV l (kindP l).1 (kindP l).2 z = bodyV l by rw [← ez]; rfl]
  rw [show readP l (kindP l).1 (kindP l).2 z = bodyP l by rw [← ez]; rfl] at P3
  have P3 := Lib.hid P3
  have hlab := bodyV_short l
  clear P2 H2 B2 O3 ez z1 z2
  obtain ⟨bv, ebv⟩ : ∃ v, bodyV l = v := ⟨_, rfl⟩
  rw [ebv]
  rw [ebv] at hlab
  replace ebv := Lib.hid ebv
  obtain ⟨K, i, n, s, p, q, lz, t, S⟩ := bv
  rw [show (C.mk K i n s p q lz t S).val = .agg #[.int .i64 K, .int .i64 i, .int .i64 n, .int .i64 s, .int .i64 p, .int .i64 q, .int .i64 lz, .int .i64 t, .string (str S)] from rfl]
  go_upto_region 6 with (fail)
  obtain ⟨w4, ew4⟩ : ∃ W, w3.alloc (.cells #[.int .i64 K, .int .i64 i, .int .i64 n, .int .i64 s, .int .i64 p, .int .i64 q, .int .i64 lz, .int .i64 t, .string (str S)] 23) = W := ⟨_, rfl⟩
  obtain ⟨cb, ecb⟩ : ∃ cb, w3.heap.size = cb := ⟨_, rfl⟩
  have hr3 := (Array.getElem?_eq_some_iff.1 H3.out).1
  have H4 : Hid (w4.heap[rb]? = some (.cells #[.int .i64 0, .int .i64 0, .int .i64 0, .int .i64 0, .int .i64 0, .int .i64 0, .int .i64 0, .int .i64 0, .string (str [])] 23 (0, 0))) := Lib.hid (by rw [← ew4]; exact (heap_alloc_old _ _ hr3).trans H3.out)
  have C4 : Hid (w4.heap[cb]? = some (.cells #[.int .i64 K, .int .i64 i, .int .i64 n, .int .i64 s, .int .i64 p, .int .i64 q, .int .i64 lz, .int .i64 t, .string (str S)] 23 (0, 0))) := Lib.hid (by rw [← ew4, ← ecb]; exact heap_alloc_new w3 _)
  have B4 : Hid (Below w.heap.size w w4) := Lib.hid (by rw [← ew4]; exact B3.out.alloc B3.out.size _)
  have P4 : Hid (PR c g l (bodyP l).1 (bodyP l).2 w4) := Lib.hid (by rw [← ew4]; exact P3.out.only (alloc_only w3 _) (fun e => e) (fun e => e))
  show Code.wp _ _ _ _ (w3.alloc (.cells #[.int .i64 K, .int .i64 i, .int .i64 n, .int .i64 s, .int .i64 p, .int .i64 q, .int .i64 lz, .int .i64 t, .string (str S)] 23))
  rw [ew4, ecb]
  clear H3 B3 P3 ew4 ecb hr3
  go_wp2_with fail
  refine (PEnd_any c g l (bodyP l).1 (bodyP l).2 w4 P4).mono ?_
  rintro e w4 ⟨rfl, rfl⟩
  obtain ⟨E, eE⟩ : ∃ E, rdEnd l (bodyP l).1 (bodyP l).2 = E := ⟨_, rfl⟩
  rw [eE] at hE ⊢
  have i1 : ((E : Int) != 0) = true := by have := hE.out; simp; omega
  clear eE hE C4 P4
  have H9 := H4
  have B9 := B4
  obtain ⟨fr0, fr1, fr2, fr3, fr4, fr5, fr6, fr7, fr8, m0, m1, m2, m3, m4, m5, m6, m7, m8⟩ := block9 H9.out
  go_wp2_with fail
  rw [set9 _ _ _ _ _ _ _ _ _ H9.out]
  (try simp only [Exit.inBlock, Exit.then])
  refine bodyPost_ret (results_cell_row_tmp rfl _ _ (rb) 23 _ (0, 0) _ rfl (setRow_heap _ _ _ _ _ _ H9.out) rfl rfl rfl) rfl ?_
  exact ⟨rfl, below_setRow B9.out hrw _⟩
set_option maxRecDepth 100000 in
set_option maxHeartbeats 1000000 in
theorem PDec_right (A : Option Addr) (n0 cap : Nat) (l : List UInt8) (w : World) (hn : n0 ≤ 140737488355328) (h : Hid (HB w A n0 l)) (z1 : 1 ≤ kindZ l) (z2 : kindZ l ≤ 4) (hE : rdEnd l (bodyP l).1 (bodyP l).2 = 0) (hR : (bodyV l).right ≠ 0) :
    Calls Try.prog 27 #[.slice A n0 cap] w fun e w' => e = .returned (.tuple #[zeroC.val, .int .i64 (bodyV l).right]) ∧ Below w.heap.size w w' := by
  obtain ⟨w0, ew⟩ : ∃ W, w.alloc (.cells #[.int .i64 0, .int .i64 0, .int .i64 0, .int .i64 0, .int .i64 0, .int .i64 0, .int .i64 0, .int .i64 0, .string { data := #[] }] 23) = W := ⟨_, rfl⟩
  have S0 : Hid (HB w0 A n0 l) := Lib.hid (by rw [← ew]; exact h.out.alloc _)
  have B0 : Hid (Below w.heap.size w w0) := Lib.hid (by rw [← ew]; exact (Below.refl _ w).alloc (Nat.le_refl _) _)
  have H0 : Hid (w0.heap[w.heap.size]? = some (.cells #[.int .i64 0, .int .i64 0, .int .i64 0, .int .i64 0, .int .i64 0, .int .i64 0, .int .i64 0, .int .i64 0, .string (str [])] 23 (0, 0))) := Lib.hid (by rw [← ew]; exact heap_alloc_new w _)
  replace ew := Lib.hid ew
  obtain ⟨rb, erb⟩ : ∃ rb, w.heap.size = rb := ⟨_, rfl⟩
  rw [erb] at H0
  replace erb := Lib.hid erb
  have hrw : w.heap.size ≤ rb := by have := erb.out; omega
  have z1 := Lib.hid z1
  have z2 := Lib.hid z2
  have hE := Lib.hid hE
  have hR := Lib.hid hR
  go_enter Try.func27, Try.ntmps27
  go_wp2_with fail
  rw [ew.out, erb.out]
  refine (NewReader_any A n0 cap l w0 hn S0).mono ?_
  rintro e w1 ⟨c, g, rfl, P1, hg0, hgc, b1⟩
  have hr0 := (Array.getElem?_eq_some_iff.1 H0.out).1
  have hrc : rb < c := by omega
  have H1 := Lib.hid ((b1.block rb hr0).trans H0.out)
  have B1 := Lib.hid (B0.out.trans (b1.mono B0.out.size))
  have P1 := Lib.hid P1
  clear b1 S0 H0 B0 ew h
  go_wp2_with fail
  refine (PByte_any c g l 0 0 w1 P1).mono ?_
  rintro e w2 ⟨rfl, P2, G2⟩
  have H2 := Lib.hid ((G2.block rb (Array.getElem?_eq_some_iff.1 H1.out).1 (fun e => by injection e with e; omega)).trans H1.out)
  have hc1 : w.heap.size ≤ c := by omega
  have B2 := Lib.hid (B1.out.trans ((only_grown G2).below B1.out.size (fun j hj e => by injection e with e; omega)))
  replace P2 : Hid (PR c g l (kindP l).1 (kindP l).2 w2) := Lib.hid P2
  obtain ⟨z, ez⟩ : ∃ z : Int, kindZ l = z := ⟨_, rfl⟩
  rw [show (((headN (rdTake l 0 0 1).1 : Nat)) : Int) = z from ez]
  clear P1 H1 B1 G2
  rw [ez] at z1 z2
  go_wp2_with fail
  refine (IsKind_yes z _ z1.out z2.out).mono ?_
  rintro e w2 ⟨rfl, rfl⟩
  go_wp2_with fail
  refine (PRead_any c g l (kindP l).1 (kindP l).2 z w2 P2 hgc z1.out z2.out).mono ?_
  rintro e w3 ⟨rfl, P3, O3⟩
  have H3 := Lib.hid ((O3.block rb (Array.getElem?_eq_some_iff.1 H2.out).1 (fun e => by have e : rb = c := e; omega)).trans H2.out)
  have B3 := Lib.hid (B2.out.trans (O3.below B2.out.size (fun j hj e => by have e : j = c := e; omega)))
  rw [show readV l (kindP l).1 (kindP l).2 z = bodyV l by rw [← ez]; rfl]
  rw [show readP l (kindP l).1 (kindP l).2 z = bodyP l by rw [← ez]; rfl] at P3
  have P3 := Lib.hid P3
  have hlab := bodyV_short l
  clear P2 H2 B2 O3 ez z1 z2
  obtain ⟨bv, ebv⟩ : ∃ v, bodyV l = v := ⟨_, rfl⟩
  rw [ebv]
  rw [ebv] at hlab
  rw [ebv] at hR
  replace ebv := Lib.hid ebv
  obtain ⟨K, i, n, s, p, q, lz, t, S⟩ := bv
  rw [show (C.mk K i n s p q lz t S).val = .agg #[.int .i64 K, .int .i64 i, .int .i64 n, .int .i64 s, .int .i64 p, .int .i64 q, .int .i64 lz, .int .i64 t, .string (str S)] from rfl]
  go_upto_region 6 with (fail)
  obtain ⟨w4, ew4⟩ : ∃ W, w3.alloc (.cells #[.int .i64 K, .int .i64 i, .int .i64 n, .int .i64 s, .int .i64 p, .int .i64 q, .int .i64 lz, .int .i64 t, .string (str S)] 23) = W := ⟨_, rfl⟩
  obtain ⟨cb, ecb⟩ : ∃ cb, w3.heap.size = cb := ⟨_, rfl⟩
  have hr3 := (Array.getElem?_eq_some_iff.1 H3.out).1
  have H4 : Hid (w4.heap[rb]? = some (.cells #[.int .i64 0, .int .i64 0, .int .i64 0, .int .i64 0, .int .i64 0, .int .i64 0, .int .i64 0, .int .i64 0, .string (str [])] 23 (0, 0))) := Lib.hid (by rw [← ew4]; exact (heap_alloc_old _ _ hr3).trans H3.out)
  have C4 : Hid (w4.heap[cb]? = some (.cells #[.int .i64 K, .int .i64 i, .int .i64 n, .int .i64 s, .int .i64 p, .int .i64 q, .int .i64 lz, .int .i64 t, .string (str S)] 23 (0, 0))) := Lib.hid (by rw [← ew4, ← ecb]; exact heap_alloc_new w3 _)
  have B4 : Hid (Below w.heap.size w w4) := Lib.hid (by rw [← ew4]; exact B3.out.alloc B3.out.size _)
  have P4 : Hid (PR c g l (bodyP l).1 (bodyP l).2 w4) := Lib.hid (by rw [← ew4]; exact P3.out.only (alloc_only w3 _) (fun e => e) (fun e => e))
  show Code.wp _ _ _ _ (w3.alloc (.cells #[.int .i64 K, .int .i64 i, .int .i64 n, .int .i64 s, .int .i64 p, .int .i64 q, .int .i64 lz, .int .i64 t, .string (str S)] 23))
  rw [ew4, ecb]
  clear H3 B3 P3 ew4 ecb hr3
  go_wp2_with fail
  refine (PEnd_any c g l (bodyP l).1 (bodyP l).2 w4 P4).mono ?_
  rintro e w4 ⟨rfl, rfl⟩
  rw [hE.out]
  obtain ⟨j0, j1, j2, j3, j4, j5, j6, j7, j8⟩ := cmd_at C4.out
  go_wp2_with fail
  refine (PRight_any ⟨K, i, n, s, p, q, lz, t, S⟩ w4 hlab).mono ?_
  rintro e w6 ⟨rfl, b6⟩
  have H6 := Lib.hid ((b6.block rb (Array.getElem?_eq_some_iff.1 H4.out).1).trans H4.out)
  have C6 := Lib.hid ((b6.block cb (Array.getElem?_eq_some_iff.1 C4.out).1).trans C4.out)
  have B6 := Lib.hid (B4.out.trans (b6.mono B4.out.size))
  clear j0 j1 j2 j3 j4 j5 j6 j7 j8 b6 H4 C4 B4 P4 hlab
  obtain ⟨E, eE⟩ : ∃ E, (C.mk K i n s p q lz t S).right = E := ⟨_, rfl⟩
  have ebr : Hid ((bodyV l).right = E) := Lib.hid (by rw [ebv.out, eE])
  rw [eE] at hR ⊢
  have i1 : ((E : Int) != 0) = true := by have := hR.out; simp; omega
  clear eE hR C6
  have H9 := H6
  have B9 := B6
  obtain ⟨fr0, fr1, fr2, fr3, fr4, fr5, fr6, fr7, fr8, m0, m1, m2, m3, m4, m5, m6, m7, m8⟩ := block9 H9.out
  go_wp2_with fail
  rw [set9 _ _ _ _ _ _ _ _ _ H9.out]
  (try simp only [Exit.inBlock, Exit.then])
  refine bodyPost_ret (results_cell_row_tmp rfl _ _ (rb) 23 _ (0, 0) _ rfl (setRow_heap _ _ _ _ _ _ H9.out) rfl rfl rfl) rfl ?_
  exact ⟨by rw [ebr.out]; rfl, below_setRow B9.out hrw _⟩
set_option maxRecDepth 100000 in
set_option maxHeartbeats 1000000 in
theorem PDec_ok (A : Option Addr) (n0 cap : Nat) (l : List UInt8) (w : World) (hn : n0 ≤ 140737488355328) (h : Hid (HB w A n0 l)) (z1 : 1 ≤ kindZ l) (z2 : kindZ l ≤ 4) (hE : rdEnd l (bodyP l).1 (bodyP l).2 = 0) (hR : (bodyV l).right = 0) :
    Calls Try.prog 27 #[.slice A n0 cap] w fun e w' => e = .returned (.tuple #[(bodyV l).val, .int .i64 0]) ∧ Below w.heap.size w w' := by
  obtain ⟨w0, ew⟩ : ∃ W, w.alloc (.cells #[.int .i64 0, .int .i64 0, .int .i64 0, .int .i64 0, .int .i64 0, .int .i64 0, .int .i64 0, .int .i64 0, .string { data := #[] }] 23) = W := ⟨_, rfl⟩
  have S0 : Hid (HB w0 A n0 l) := Lib.hid (by rw [← ew]; exact h.out.alloc _)
  have B0 : Hid (Below w.heap.size w w0) := Lib.hid (by rw [← ew]; exact (Below.refl _ w).alloc (Nat.le_refl _) _)
  have H0 : Hid (w0.heap[w.heap.size]? = some (.cells #[.int .i64 0, .int .i64 0, .int .i64 0, .int .i64 0, .int .i64 0, .int .i64 0, .int .i64 0, .int .i64 0, .string (str [])] 23 (0, 0))) := Lib.hid (by rw [← ew]; exact heap_alloc_new w _)
  replace ew := Lib.hid ew
  obtain ⟨rb, erb⟩ : ∃ rb, w.heap.size = rb := ⟨_, rfl⟩
  rw [erb] at H0
  replace erb := Lib.hid erb
  have hrw : w.heap.size ≤ rb := by have := erb.out; omega
  have z1 := Lib.hid z1
  have z2 := Lib.hid z2
  have hE := Lib.hid hE
  have hR := Lib.hid hR
  go_enter Try.func27, Try.ntmps27
  go_wp2_with fail
  rw [ew.out, erb.out]
  refine (NewReader_any A n0 cap l w0 hn S0).mono ?_
  rintro e w1 ⟨c, g, rfl, P1, hg0, hgc, b1⟩
  have hr0 := (Array.getElem?_eq_some_iff.1 H0.out).1
  have hrc : rb < c := by omega
  have H1 := Lib.hid ((b1.block rb hr0).trans H0.out)
  have B1 := Lib.hid (B0.out.trans (b1.mono B0.out.size))
  have P1 := Lib.hid P1
  clear b1 S0 H0 B0 ew h
  go_wp2_with fail
  refine (PByte_any c g l 0 0 w1 P1).mono ?_
  rintro e w2 ⟨rfl, P2, G2⟩
  have H2 := Lib.hid ((G2.block rb (Array.getElem?_eq_some_iff.1 H1.out).1 (fun e => by injection e with e; omega)).trans H1.out)
  have hc1 : w.heap.size ≤ c := by omega
  have B2 := Lib.hid (B1.out.trans ((only_grown G2).below B1.out.size (fun j hj e => by injection e with e; omega)))
  replace P2 : Hid (PR c g l (kindP l).1 (kindP l).2 w2) := Lib.hid P2
  obtain ⟨z, ez⟩ : ∃ z : Int, kindZ l = z := ⟨_, rfl⟩
  rw [show (((headN (rdTake l 0 0 1).1 : Nat)) : Int) = z from ez]
  clear P1 H1 B1 G2
  rw [ez] at z1 z2
  go_wp2_with fail
  refine (IsKind_yes z _ z1.out z2.out).mono ?_
  rintro e w2 ⟨rfl, rfl⟩
  go_wp2_with fail
  refine (PRead_any c g l (kindP l).1 (kindP l).2 z w2 P2 hgc z1.out z2.out).mono ?_
  rintro e w3 ⟨rfl, P3, O3⟩
  have H3 := Lib.hid ((O3.block rb (Array.getElem?_eq_some_iff.1 H2.out).1 (fun e => by have e : rb = c := e; omega)).trans H2.out)
  have B3 := Lib.hid (B2.out.trans (O3.below B2.out.size (fun j hj e => by have e : j = c := e; omega)))
  rw [show readV l (kindP l).1 (kindP l).2 z = bodyV l by rw [← ez]; rfl]
  rw [show readP l (kindP l).1 (kindP l).2 z = bodyP l by rw [← ez]; rfl] at P3
  have P3 := Lib.hid P3
  have hlab := bodyV_short l
  clear P2 H2 B2 O3 ez z1 z2
  obtain ⟨bv, ebv⟩ : ∃ v, bodyV l = v := ⟨_, rfl⟩
  rw [ebv]
  rw [ebv] at hlab
  rw [ebv] at hR
  replace ebv := Lib.hid ebv
  obtain ⟨K, i, n, s, p, q, lz, t, S⟩ := bv
  rw [show (C.mk K i n s p q lz t S).val = .agg #[.int .i64 K, .int .i64 i, .int .i64 n, .int .i64 s, .int .i64 p, .int .i64 q, .int .i64 lz, .int .i64 t, .string (str S)] from rfl]
  go_upto_region 6 with (fail)
  obtain ⟨w4, ew4⟩ : ∃ W, w3.alloc (.cells #[.int .i64 K, .int .i64 i, .int .i64 n, .int .i64 s, .int .i64 p, .int .i64 q, .int .i64 lz, .int .i64 t, .string (str S)] 23) = W := ⟨_, rfl⟩
  obtain ⟨cb, ecb⟩ : ∃ cb, w3.heap.size = cb := ⟨_, rfl⟩
  have hr3 := (Array.getElem?_eq_some_iff.1 H3.out).1
  have H4 : Hid (w4.heap[rb]? = some (.cells #[.int .i64 0, .int .i64 0, .int .i64 0, .int .i64 0, .int .i64 0, .int .i64 0, .int .i64 0, .int .i64 0, .string (str [])] 23 (0, 0))) := Lib.hid (by rw [← ew4]; exact (heap_alloc_old _ _ hr3).trans H3.out)
  have C4 : Hid (w4.heap[cb]? = some (.cells #[.int .i64 K, .int .i64 i, .int .i64 n, .int .i64 s, .int .i64 p, .int .i64 q, .int .i64 lz, .int .i64 t, .string (str S)] 23 (0, 0))) := Lib.hid (by rw [← ew4, ← ecb]; exact heap_alloc_new w3 _)
  have B4 : Hid (Below w.heap.size w w4) := Lib.hid (by rw [← ew4]; exact B3.out.alloc B3.out.size _)
  have P4 : Hid (PR c g l (bodyP l).1 (bodyP l).2 w4) := Lib.hid (by rw [← ew4]; exact P3.out.only (alloc_only w3 _) (fun e => e) (fun e => e))
  show Code.wp _ _ _ _ (w3.alloc (.cells #[.int .i64 K, .int .i64 i, .int .i64 n, .int .i64 s, .int .i64 p, .int .i64 q, .int .i64 lz, .int .i64 t, .string (str S)] 23))
  rw [ew4, ecb]
  clear H3 B3 P3 ew4 ecb hr3
  go_wp2_with fail
  refine (PEnd_any c g l (bodyP l).1 (bodyP l).2 w4 P4).mono ?_
  rintro e w4 ⟨rfl, rfl⟩
  rw [hE.out]
  obtain ⟨j0, j1, j2, j3, j4, j5, j6, j7, j8⟩ := cmd_at C4.out
  go_wp2_with fail
  refine (PRight_any ⟨K, i, n, s, p, q, lz, t, S⟩ w4 hlab).mono ?_
  rintro e w6 ⟨rfl, b6⟩
  have H6 := Lib.hid ((b6.block rb (Array.getElem?_eq_some_iff.1 H4.out).1).trans H4.out)
  have C6 := Lib.hid ((b6.block cb (Array.getElem?_eq_some_iff.1 C4.out).1).trans C4.out)
  have B6 := Lib.hid (B4.out.trans (b6.mono B4.out.size))
  clear j0 j1 j2 j3 j4 j5 j6 j7 j8 b6 H4 C4 B4 P4 hlab
  rw [hR.out]
  obtain ⟨j0, j1, j2, j3, j4, j5, j6, j7, j8⟩ := cmd_at C6.out
  have H9 := H6
  have B9 := B6
  obtain ⟨fr0, fr1, fr2, fr3, fr4, fr5, fr6, fr7, fr8, m0, m1, m2, m3, m4, m5, m6, m7, m8⟩ := block9 H9.out
  go_wp2_with fail
  rw [set9 _ _ _ _ _ _ _ _ _ H9.out]
  (try simp only [Exit.inBlock, Exit.then])
  refine bodyPost_ret (results_cell_row_tmp rfl _ _ (rb) 23 _ (0, 0) _ rfl (setRow_heap _ _ _ _ _ _ H9.out) rfl rfl rfl) rfl ?_
  exact ⟨by rw [ebv.out]; rfl, below_setRow B9.out hrw _⟩
theorem PDecode_any (A : Option Addr) (n0 cap : Nat) (l : List UInt8) (w : World) (hn : n0 ≤ 140737488355328) (h : Hid (HB w A n0 l)) :
    Calls Try.prog 27 #[.slice A n0 cap] w fun e w' => e = .returned (.tuple #[(decC l).1.val, .int .i64 (decC l).2]) ∧ Below w.heap.size w w' := by
  by_cases hz : kindZ l < 1 ∨ 4 < kindZ l
  · rw [show decC l = (zeroC, 31) from if_pos hz]
    exact PDec_kind A n0 cap l w hn h hz
  · have z1 : 1 ≤ kindZ l := by omega
    have z2 : kindZ l ≤ 4 := by omega
    by_cases hE : rdEnd l (bodyP l).1 (bodyP l).2 = 0
    · by_cases hR : (bodyV l).right = 0
      · rw [show decC l = (bodyV l, 0) from (if_neg hz).trans ((if_neg (fun e => e hE)).trans (if_neg (fun e => e hR)))]
        exact PDec_ok A n0 cap l w hn h z1 z2 hE hR
      · rw [show decC l = (zeroC, (bodyV l).right) from (if_neg hz).trans ((if_neg (fun e => e hE)).trans (if_pos hR))]
        exact PDec_right A n0 cap l w hn h z1 z2 hE hR
    · rw [show decC l = (zeroC, 12) from (if_neg hz).trans (if_pos hE)]
      exact PDec_end A n0 cap l w hn h z1 z2 hE
end Go.Proofs.Ytdbaphmhfoajgaa
