/-
  strconv.AppendInt at base 10 onto a row that may bear the mark of a conversion.
-/
import Derived.Test.YtjhfgajhmenboaaDoorMark
import Derived.Test.YtjhfgajhmenboaaDoorLaid
import Derived.Test.YtjhfgajhmenboaaDoorRep
import Derived.Lib.AppendIntMem
import Derived.Lib.ItoaLen
import Derived.Lib.ItoaWalk
import Derived.Lib.BufferKept
import Derived.CellFam
import Derived.WalkKit
import Derived.BigCall
import Derived.BigGuard
namespace Go.Proofs.YtjhfgajhmenboaaDoor
open Go.RowKit Go.Sort
set_option linter.unusedVariables false
set_option linter.unusedSimpArgs false

theorem MB.kind {w : World} {base : Nat} {v : Value} {l : List UInt8} (h : MB w base v l) : ∀ g, v.ownBlock = some g → ∃ c fz, w.heap[g]? = some (.cells c 5 fz) := fun g hg => (h.blk hg).2.2
theorem MB.below {w w' : World} {base : Nat} {v : Value} {l : List UInt8} (h : MB w base v l) (hg : w.grownBy w' v.ownBlock) (hB : base ≤ w.heap.size) : Below base w w' :=
  (Below.refl base w).grown hg hB (fun k hk => (h.blk hk).1)
theorem nDigits_le (u : Nat) (h : u < 18446744073709551616) : Lib.nDigits u ≤ 20 := Lib.nDigits_le20 u h
set_option maxRecDepth 100000 in
set_option maxHeartbeats 6400000 in
theorem AppU_small (B : Nat) (v : Value) (xs : List UInt8) (u : Nat) (w : World) (hu : u < 100) (h : Hid (MB w B v xs)) (hB : B ≤ w.heap.size) (hl : xs.length ≤ 1000000) :
    Calls Tryd.prog 53 #[v, .int .u64 u, .int .i64 10] w fun e w' => ∃ v', e = .returned v' ∧ MB w' B v' (xs ++ Lib.decDigits u) ∧ Below B w w' ∧ Lib.OthersKept 5 none w w' := by
  obtain ⟨i0, hi0, hz0, hz1, hz2⟩ := info_parts info_u8
  have hlen : (Lib.decDigits u).length ≤ 20 := by rw [Lib.decDigits_length]; exact nDigits_le u (by omega)
  have hsm := Lib.hid (Tryd.internal_strconv_small u hu w)
  have est : (⟨(Lib.decDigits u).toArray⟩ : ByteArray) = str (Lib.decDigits u) := rfl
  rw [est] at hsm
  obtain ⟨ds, eds⟩ : ∃ ds, Lib.decDigits u = ds := ⟨_, rfl⟩
  rw [eds] at hsm hlen ⊢
  clear eds est
  go_enter Tryd.func53, Tryd.ntmps53
  go_wp2_with fail
  refine hsm.out.mono ?_
  rintro e w1 ⟨rfl, rfl⟩
  go_wp2_with (at_builtin; refine wpList_onto_MS (by rfl) (.tmp 13) (.tmp 16) 26 9 (by rfl) B i0 Tryd.underlying26 Tryd.underlying9 hi0 hz0 hz1 hz2 _ xs (by rfl) h.out ds (by rfl) (by omega) hB ?_)
  intro v' w1 h1 g1
  have b1 := Lib.hid (h.out.below g1 hB)
  have k1 := Lib.hid ((Lib.OthersKept.refl 5 none _).grown g1 h.out.kind)
  have h1 := Lib.hid h1
  go_wp2_with fail
  go_ret
  exact ⟨v', rfl, h1.out, b1.out, k1.out⟩
set_option maxRecDepth 100000 in
set_option maxHeartbeats 12800000 in
theorem AppU_big (B : Nat) (v : Value) (xs : List UInt8) (u : Nat) (w : World) (hu : 100 ≤ u) (hu2 : u < 18446744073709551616) (h : Hid (MB w B v xs)) (hB : B ≤ w.heap.size) (hl : xs.length ≤ 1000000) (ht : Lib.TabIs Tryd.prog w "internal/strconv.uint64pow10" .u64 Lib.pow10Tab) :
    Calls Tryd.prog 53 #[v, .int .u64 u, .int .i64 10] w fun e w' => ∃ v', e = .returned v' ∧ MB w' B v' (xs ++ Lib.decDigits u) ∧ Below B w w' ∧ Lib.OthersKept 5 none w w' := by
  obtain ⟨i0, hi0, hz0, hz1, hz2⟩ := info_parts info_u8
  have hn20 := nDigits_le u hu2
  have hdl := Lib.decDigits_length u
  have hal : Tryd.prog.arrayLen 91 = 24 := by kernel_rfl
  obtain ⟨N, eN⟩ : ∃ N, Lib.nDigits u = N := ⟨_, rfl⟩
  have hsl : ∀ W, (Instr.sliceAt 91 (.pointer (some ⟨w.heap.size, 0, none⟩)) none (some (.int .i64 (N : Int))) none).run Tryd.prog W = .ok (.slice (some ⟨w.heap.size, 0, none⟩) N 24) W := fun W => by
    rw [run_sliceAt_array_h W 91 ⟨w.heap.size, 0, none⟩ (by kernel_rfl) .i64 (N : Int) (by omega) (by rw [hal]; omega)]
    go_simp
  have hH := Lib.holds_zero0 w 91 N (by omega)
  have hpow := Lib.lt_pow_nDigits u
  rw [eN] at hpow hn20
  have hfmt := Tryd.internal_strconv_formatBase10 w.heap.size 0 24 u (Array.replicate N 0) (w.alloc (.cells Lib.zeros24 91)) hH (by rw [Array.size_replicate]; exact hpow) hu2 (by rw [Array.size_replicate]; omega)
  rw [Array.size_replicate] at hfmt
  have hnd := Tryd.internal_strconv_numDigits u (by omega) hu2 (w.alloc (.cells Lib.zeros24 91)) (Lib.tabIs_alloc ht _)
  rw [eN] at hnd
  have hnd := Lib.hid hnd
  have hfmt := Lib.hid hfmt
  have hH := Lib.hid hH
  have iu : (100 : Int) ≤ (u : Int) := by omega
  have hrow := Lib.hid (fun (v' : Nat) (dk : Array UInt8) (hF : Lib.FmtInv (Lib.nDigits u) u 0 v' dk) j hj => Lib.row_is_numeral hF j hj)
  rw [eN] at hrow hdl
  obtain ⟨ds, eds⟩ : ∃ ds, Lib.decDigits u = ds := ⟨_, rfl⟩
  rw [eds]
  have hdl2 : ds.length = N := by rw [← eds]; exact hdl
  have hdl := Lib.hid hdl
  replace eds := Lib.hid eds
  clear hal hpow eN ht
  go_enter Tryd.func53, Tryd.ntmps53
  go_wp2_with fail
  refine hnd.out.mono ?_
  rintro e w1 ⟨rfl, rfl⟩
  go_wp2_with fail
  refine hfmt.out.mono ?_
  rintro e w2 ⟨rfl, k, v', dk, ew, hF⟩
  have hdk : dk.size = N := hF.size
  have HN : Hid (HB w2 (some ⟨w.heap.size, 0, none⟩) N (Lib.decDigits u)) := Lib.hid ⟨hdl.out, fun _ => ⟨w.heap.size, 0, rfl, fun j hj => by
    have hjl : j < (Lib.decDigits u).length := by rw [hdl.out]; exact hj
    rw [ew, World.cell?_drewN, cell?_putRow (fun (b : UInt8) => Value.int .u8 (b.toNat : Int)) _ w.heap.size 0 _ dk hH.out (by rw [hF.size, Array.size_replicate]) j (by omega), ← hrow.out v' dk hF j hjl]
    simp [bc, List.getD, List.getElem?_eq_getElem hjl]⟩⟩
  obtain ⟨os, eo⟩ := Lib.fin_at w (.cells Lib.zeros24 91) dk k 0
  have bw : Below w.heap.size w w2 := by rw [ew, eo]; exact Lib.below_grow w.heap.size w (Nat.le_refl _) k os
  have H2 := Lib.hid (h.out.keep bw)
  have B2 := Lib.hid (bw.mono hB)
  have K2 := Lib.hid ((Lib.OthersKept.refl 5 none w).below bw)
  have hB2 : B ≤ w2.heap.size := Nat.le_trans hB bw.size
  rw [eds.out] at HN
  clear eds ew hF eo bw hrow hH hfmt hnd hdk
  go_wp2_with (at_builtin; refine wpList_onto_M (by rfl) (.tmp 24) (.tmp 26) 26 (by rfl) B i0 Tryd.underlying26 hi0 hz0 hz1 hz2 _ xs (by rfl) H2.out ⟨w.heap.size, 0, none⟩ N 24 ds (by rfl) HN.out (by omega) hB2 ?_)
  intro v3 w3 h3 g3
  have B3 := Lib.hid (B2.out.trans (H2.out.below g3 hB2))
  have K3 := Lib.hid (K2.out.grown g3 H2.out.kind)
  have h3 := Lib.hid h3
  go_wp2_with fail
  go_ret
  exact ⟨v3, rfl, h3.out, B3.out, K3.out⟩
theorem AppU_any (B : Nat) (v : Value) (xs : List UInt8) (u : Nat) (w : World) (hu2 : u < 18446744073709551616) (h : Hid (MB w B v xs)) (hB : B ≤ w.heap.size) (hl : xs.length ≤ 1000000) (ht : Lib.TabIs Tryd.prog w "internal/strconv.uint64pow10" .u64 Lib.pow10Tab) :
    Calls Tryd.prog 53 #[v, .int .u64 u, .int .i64 10] w fun e w' => ∃ v', e = .returned v' ∧ MB w' B v' (xs ++ Lib.decDigits u) ∧ Below B w w' ∧ Lib.OthersKept 5 none w w' := by
  by_cases hu : u < 100
  · exact AppU_small B v xs u w hu h hB hl
  · exact AppU_big B v xs u w (by omega) hu2 h hB hl ht
set_option maxRecDepth 100000 in
set_option maxHeartbeats 6400000 in
theorem AppI_neg (B : Nat) (v : Value) (xs : List UInt8) (u : Nat) (w : World) (h1 : 1 ≤ u) (h2 : u ≤ 9223372036854775808) (h : Hid (MB w B v xs)) (hB : B ≤ w.heap.size) (hl : xs.length ≤ 100000) (ht : Hid (Lib.TabBelow Tryd.prog B w "internal/strconv.uint64pow10" .u64 Lib.pow10Tab)) :
    Calls Tryd.prog 45 #[v, .int .i64 (-(u : Int)), .int .i64 10] w fun e w' => ∃ v', e = .returned v' ∧ MB w' B v' (xs ++ (45 :: Lib.decDigits u)) ∧ Below B w w' ∧ Lib.OthersKept 5 none w w' := by
  obtain ⟨i0, hi0, hz0, hz1, hz2⟩ := info_parts info_u8
  have hw1 : IntKind.u64.wrap (-IntKind.u64.wrap (-(u : Int))) = (u : Int) := by rw [IntKind.wrap_u64, IntKind.wrap_u64]; omega
  have hneg : decide (-(u : Int) < 0) = true := decide_eq_true (by omega)
  have hneg' : -(u : Int) < 0 := by omega
  have H0 : Hid (MB (w.alloc (.cells #[.int .u8 45] 5)) B v xs) := Lib.hid (h.out.only (alloc_only w _) (fun _ _ e => e))
  have HS : Hid (HB (w.alloc (.cells #[.int .u8 45] 5)) (some ⟨w.heap.size, 0, none⟩) 1 [45]) := Lib.hid (hb_lit w [45])
  have hBa : B ≤ (w.alloc (.cells #[.int .u8 45] 5)).heap.size := by simp; omega
  have hBa := Lib.hid hBa
  go_enter Tryd.func45, Tryd.ntmps45
  go_wp2_with (at_builtin; refine wpList_onto_M (by rfl) (.tmp 12) (.tmp 13) 26 (by rfl) B i0 Tryd.underlying26 hi0 hz0 hz1 hz2 _ xs (by rfl) H0.out ⟨w.heap.size, 0, none⟩ 1 1 [45] (by rfl) HS.out (by omega) hBa.out ?_)
  intro v3 w3 h3 g3
  have B3 : Hid (Below B w w3) := Lib.hid (((Below.refl B w).alloc hB _).grown g3 hBa.out (fun k hk => (H0.out.blk hk).1))
  have K3 : Hid (Lib.OthersKept 5 none w w3) := Lib.hid (((Lib.OthersKept.refl 5 none w).alloc _).grown g3 H0.out.kind)
  have T3 := ht.out w3 B3.out
  have h3 := Lib.hid h3
  clear g3 H0 HS hBa
  go_wp2_with fail
  refine (AppU_any B v3 (xs ++ [45]) u w3 (by omega) h3 (Nat.le_trans hB B3.out.size) (by simp; omega) T3).mono ?_
  rintro e w4 ⟨v4, rfl, h4, b4, k4⟩
  have B4 := Lib.hid (B3.out.trans b4)
  have K4 := Lib.hid (K3.out.trans k4)
  have h4 : Hid (MB w4 B v4 (xs ++ 45 :: Lib.decDigits u)) := Lib.hid (by rw [List.append_assoc] at h4; exact h4)
  clear b4 k4 T3
  go_wp2_with fail
  go_ret
  exact ⟨v4, rfl, h4.out, B4.out, K4.out⟩
set_option maxRecDepth 100000 in
set_option maxHeartbeats 6400000 in
theorem AppI_pos (B : Nat) (v : Value) (xs : List UInt8) (u : Nat) (w : World) (h2 : u ≤ 9223372036854775807) (h : Hid (MB w B v xs)) (hB : B ≤ w.heap.size) (hl : xs.length ≤ 100000) (ht : Hid (Lib.TabBelow Tryd.prog B w "internal/strconv.uint64pow10" .u64 Lib.pow10Tab)) :
    Calls Tryd.prog 45 #[v, .int .i64 (u : Int), .int .i64 10] w fun e w' => ∃ v', e = .returned v' ∧ MB w' B v' (xs ++ Lib.decDigits u) ∧ Below B w w' ∧ Lib.OthersKept 5 none w w' := by
  have T := ht.out.here
  go_enter Tryd.func45, Tryd.ntmps45
  go_wp2_with fail
  refine (AppU_any B v xs u w (by omega) h hB (by omega) T).mono ?_
  rintro e w4 ⟨v4, rfl, h4, b4, k4⟩
  have h4 := Lib.hid h4
  have b4 := Lib.hid b4
  have k4 := Lib.hid k4
  clear T
  go_wp2_with fail
  go_ret
  exact ⟨v4, rfl, h4.out, b4.out, k4.out⟩
theorem AppI_any (B : Nat) (v : Value) (xs : List UInt8) (n : Int) (w : World) (n1 : -9223372036854775808 ≤ n) (n2 : n ≤ 9223372036854775807) (h : Hid (MB w B v xs)) (hB : B ≤ w.heap.size) (hl : xs.length ≤ 100000) (ht : Hid (Lib.TabBelow Tryd.prog B w "internal/strconv.uint64pow10" .u64 Lib.pow10Tab)) :
    Calls Tryd.prog 45 #[v, .int .i64 n, .int .i64 10] w fun e w' => ∃ v', e = .returned v' ∧ MB w' B v' (xs ++ Lib.itoa n) ∧ Below B w w' ∧ Lib.OthersKept 5 none w w' := by
  by_cases hn : n < 0
  · obtain ⟨u, rfl⟩ : ∃ u : Nat, n = -(u : Int) := ⟨n.natAbs, by omega⟩
    rw [Lib.itoa_neg u (by omega)]
    exact AppI_neg B v xs u w (by omega) (by omega) h hB hl ht
  · obtain ⟨u, rfl⟩ : ∃ u : Nat, n = (u : Int) := ⟨n.toNat, by omega⟩
    rw [Lib.itoa_nonneg]
    exact AppI_pos B v xs u w (by omega) h hB hl ht
set_option maxRecDepth 100000 in
set_option maxHeartbeats 1000000 in
theorem AppendInt_any (B : Nat) (v : Value) (xs : List UInt8) (n : Int) (w : World) (n1 : -9223372036854775808 ≤ n) (n2 : n ≤ 9223372036854775807) (h : Hid (MB w B v xs)) (hB : B ≤ w.heap.size) (hl : xs.length ≤ 100000) (ht : Hid (Lib.TabBelow Tryd.prog B w "internal/strconv.uint64pow10" .u64 Lib.pow10Tab)) :
    Calls Tryd.prog 31 #[v, .int .i64 n, .int .i64 10] w fun e w' => ∃ v', e = .returned v' ∧ MB w' B v' (xs ++ Lib.itoa n) ∧ Below B w w' ∧ Lib.OthersKept 5 none w w' := by
  go_enter Tryd.func31, Tryd.ntmps31
  go_wp2_with fail
  refine (AppI_any B v xs n w n1 n2 h hB hl ht).mono ?_
  rintro e w4 ⟨v4, rfl, h4, b4, k4⟩
  have h4 := Lib.hid h4
  have b4 := Lib.hid b4
  have k4 := Lib.hid k4
  go_wp2_with fail
  go_ret
  exact ⟨v4, rfl, h4.out, b4.out, k4.out⟩
end Go.Proofs.YtjhfgajhmenboaaDoor
