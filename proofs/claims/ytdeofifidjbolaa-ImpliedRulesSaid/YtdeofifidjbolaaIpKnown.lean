/-
  The law's known.
-/
import Derived.Test.YtdeofifidjbolaaImTopsP
import Derived.Test.YtdeofifidjbolaaIpQuotes
import Derived.Test.YtdeofifidjbolaaGaBase
import Derived.Test.YtdeofifidjbolaaKeepProduct
import Derived.Test.YtdeofifidjbolaaGcRd
namespace Go.Proofs.Ytdeofifidjbolaa
open Go.RowKit
set_option linter.unusedVariables false
set_option linter.unusedSimpArgs false

def P3 (r : Int) (A1 A2 : Option Addr) : PD := ⟨[67, 76], A1, 3, 3, 5, 0, 1000, 200, r, 4, 2, 40, A2, 3, 3, Q3, R3⟩
theorem P3_chk (A1 A2 : Option Addr) : chk (P3 1 A1 A2) = 0 := by rfl
theorem P3_cnt (A1 A2 : Option Addr) : cntL (P3 1 A1 A2) = 6 := by unfold cntL; rw [if_pos (P3_chk A1 A2)]; show 3 + 3 * (3 - 1) / 2 = 6; decide
theorem Three_ok (w : World) : Calls Try.prog 10 #[.int .i64 1] w fun e w' => ∃ a1 a2 : Nat, e = .returned (.agg #[.string (str [67, 76]), .slice (some ⟨a1, 0, none⟩) 3 3, .int .i64 5, .int .i64 0, .int .i64 1000, .int .i64 200, .int .i64 1, .int .i64 4, .int .i64 2, .int .i64 40, .slice (some ⟨a2, 0, none⟩) 3 3]) ∧ (P3 1 (some ⟨a1, 0, none⟩) (some ⟨a2, 0, none⟩)).Ok w' ∧ Below w.heap.size w w' :=
    (Three_any 1 (by omega) w).mono fun e w' ⟨a1, a2, he, h1, h2, hb⟩ => ⟨a1, a2, he, ⟨h1, h2, by show [67, 76].length ≤ _; simp, Nat.le_refl _, by show 3 ≤ _; omega, Nat.le_refl _, by show 3 ≤ _; omega, ⟨by show _ ≤ (5 : Int); omega, by show (5 : Int) ≤ _; omega⟩, ⟨by show _ ≤ (0 : Int); omega, by show (0 : Int) ≤ _; omega⟩, ⟨by show _ ≤ (1000 : Int); omega, by show (1000 : Int) ≤ _; omega⟩, ⟨by show _ ≤ (200 : Int); omega, by show (200 : Int) ≤ _; omega⟩, ⟨by show _ ≤ (1 : Int); omega, by show (1 : Int) ≤ _; omega⟩, ⟨by show _ ≤ (4 : Int); omega, by show (4 : Int) ≤ _; omega⟩, ⟨by show _ ≤ (2 : Int); omega, by show (2 : Int) ≤ _; omega⟩, ⟨by show _ ≤ (40 : Int); omega, by show (40 : Int) ≤ _; omega⟩⟩, hb⟩
theorem info_kt : (Try.prog.info? 31).map (fun i => (i.zero, i.size, i.bytes)) = some (some (.agg #[.bool false, .bool false, .int .i64 0, .int .i64 0, .int .i64 0, .int .i64 0]), 6, 40) := by kernel_rfl
theorem build_bools : ∀ W : World, (Instr.build 28 #[(0, .bool false), (1, .bool true)]).run Try.prog W = .ok (.agg #[.bool false, .bool true]) W := fun W => by kernel_rfl
theorem build_pair (a b : Int) : ∀ W : World, (Instr.build 29 #[(0, .int .i64 a), (1, .int .i64 b)]).run Try.prog W = .ok (.agg #[.int .i64 a, .int .i64 b]) W := fun W => by kernel_rfl
theorem build_top (a b c d : Int) : ∀ W : World, (Instr.build 31 #[(0, .agg #[.bool false, .bool true]), (1, .agg #[.int .i64 a, .int .i64 b]), (2, .agg #[.int .i64 c, .int .i64 d])]).run Try.prog W = .ok (.agg #[.bool false, .bool true, .int .i64 a, .int .i64 b, .int .i64 c, .int .i64 d]) W := fun W => by kernel_rfl
/-- The tops of chapter 14's first run. -/
def knownT : List Tp := [zeroT, ⟨false, true, 0, 100, 0, 4⟩, zeroT, ⟨false, true, 0, 5, 0, 7⟩, zeroT, zeroT]
theorem knownT_ok : OkT knownT := fun x hx => by
  simp only [knownT, zeroT, List.mem_cons, List.not_mem_nil, or_false] at hx
  rcases hx with rfl | rfl | rfl | rfl | rfl | rfl <;> exact ⟨⟨by decide, by decide⟩, ⟨by decide, by decide⟩, ⟨by decide, by decide⟩, ⟨by decide, by decide⟩⟩
theorem known_quotes (A1 A2 : Option Addr) : quotesQ (P3 1 A1 A2) knownT 0 2 = [⟨105, 4, 3, 2, 1, 2⟩] := by kernel_rfl
set_option maxRecDepth 100000 in
set_option maxHeartbeats 4000000 in
theorem Known_any (w : World) : Calls Try.prog 15 #[] w fun e w' => e = .returned (.bool true) ∧ Below w.heap.size w w' := by
  obtain ⟨i0, hi0, hz0, hz1, hz2⟩ := info_parts info_kt
  have H3 := Lib.hid (Three_ok w)
  go_enter Try.func15, Try.ntmps15
  go_wp2_with fail
  refine H3.out.mono ?_
  clear H3
  rintro e w0 ⟨a1, a2, rfl, hOk, b1⟩
  obtain ⟨q, eq⟩ : ∃ q, w0.heap.size = q := ⟨_, rfl⟩
  obtain ⟨w1, e1⟩ : ∃ W, w0.alloc (.cells #[.string (str [67, 76]), .slice (some ⟨a1, 0, none⟩) 3 3, .int .i64 5, .int .i64 0, .int .i64 1000, .int .i64 200, .int .i64 1, .int .i64 4, .int .i64 2, .int .i64 40, .slice (some ⟨a2, 0, none⟩) 3 3] 25) = W := ⟨_, rfl⟩
  have hB1 : Hid (Below w.heap.size w w1) := Lib.hid (by rw [← e1]; exact b1.alloc b1.size _)
  have hblk : w1.heap[q]? = some (.cells #[.string (str [67, 76]), .slice (some ⟨a1, 0, none⟩) 3 3, .int .i64 5, .int .i64 0, .int .i64 1000, .int .i64 200, .int .i64 1, .int .i64 4, .int .i64 2, .int .i64 40, .slice (some ⟨a2, 0, none⟩) 3 3] 25 (0, 0)) := by rw [← e1, ← eq]; exact heap_alloc_new w0 _
  have hOk1 : (P3 1 (some ⟨a1, 0, none⟩) (some ⟨a2, 0, none⟩)).Ok w1 := by rw [← e1]; exact hOk.below ((Below.refl _ w0).alloc (Nat.le_refl _) _)
  have hblk1 : Hid (∀ W, Below w1.heap.size w1 W → W.heap[q]? = some (.cells #[.string (str [67, 76]), .slice (some ⟨a1, 0, none⟩) 3 3, .int .i64 5, .int .i64 0, .int .i64 1000, .int .i64 200, .int .i64 1, .int .i64 4, .int .i64 2, .int .i64 40, .slice (some ⟨a2, 0, none⟩) 3 3] 25 (0, 0))) := Lib.hid (fun W b => (b.block q (Array.getElem?_eq_some_iff.1 hblk).1).trans hblk)
  have hOkW : Hid (∀ W, Below w1.heap.size w1 W → (P3 1 (some ⟨a1, 0, none⟩) (some ⟨a2, 0, none⟩)).Ok W) := Lib.hid (fun W b => hOk1.below b)
  replace e1 := Lib.hid e1
  replace eq := Lib.hid eq
  clear hOk hOk1 b1 hblk
  go_upto_region 2 with (fail)
  rw [e1.out, eq.out]
  clear e1 eq
  go_wp2_with (at_make; refine wpList_make_full _ (by rfl) (.const (.int .i64 6)) (.const (.int .i64 6)) 27 (by rfl) w1.heap.size 31 i0 (.agg #[.bool false, .bool false, .int .i64 0, .int .i64 0, .int .i64 0, .int .i64 0]) 6 Try.underlying27 hi0 hz0 hz1 .i64 .i64 _ _ 6 (by rfl) (by rfl) rfl rfl (by rw [hz2]; omega) (by unfold maxLen; omega) (Nat.le_refl _) ?_)
  intro w2 r2 g2
  have b12 : Below w1.heap.size w1 w2 := (Below.refl _ w1).grown g2 (Nat.le_refl _) (fun k e => by cases e)
  obtain ⟨gr, egr⟩ : ∃ x, w1.heap.size = x := ⟨_, rfl⟩
  have R2 : Hid (Own fTp 31 w2 gr (.slice (some ⟨gr, 0, none⟩) 6 6) [zeroT, zeroT, zeroT, zeroT, zeroT, zeroT]) := Lib.hid (by
    rw [← egr]
    show Own fTp 31 w2 w1.heap.size (.slice (some ⟨w1.heap.size, 0, none⟩) 6 6) (List.replicate 6 zeroT)
    unfold Own
    rw [List.length_replicate, ← made_tops]
    exact r2)
  have B2 : Hid (Below gr w2 w2) := Lib.hid (Below.refl _ _)
  have hBW : Hid (∀ W, Below gr w2 W → Below w1.heap.size w1 W) := Lib.hid (fun W b => b12.trans (by rw [egr]; exact b))
  replace egr := Lib.hid egr
  clear r2 g2 b12
  go_upto_region 3 with (fail)
  rw [egr.out]
  obtain ⟨g', cap', cur, ev, -, hgl, hgh, -, -, hcs, -⟩ := R2.out.open' (by simp)
  injection ev with ev1 ev2 ev3
  injection ev1 with ev1
  injection ev1 with ev1
  subst ev1; subst ev3
  have hcs6 : cur.size = 36 := hcs
  have R3 : Own fTp 31 ((((((w2.setCell ⟨gr, 18, none⟩ (.bool false)).setCell ⟨gr, 19, none⟩ (.bool true)).setCell ⟨gr, 20, none⟩ (.int .i64 0)).setCell ⟨gr, 21, none⟩ (.int .i64 5)).setCell ⟨gr, 22, none⟩ (.int .i64 0)).setCell ⟨gr, 23, none⟩ (.int .i64 7)) gr (.slice (some ⟨gr, 0, none⟩) 6 6) [zeroT, zeroT, zeroT, ⟨false, true, 0, 5, 0, 7⟩, zeroT, zeroT] := R2.out.top6 (j := 3) (x := zeroT) rfl false true 0 5 0 7
  obtain ⟨f0, f1, f2, f3, f4, f5, ⟨y0, q0⟩, ⟨y1, q1⟩, ⟨y2, q2⟩, ⟨y3, q3⟩, ⟨y4, q4⟩, ⟨y5, q5⟩⟩ := set6k 18 (.bool false) (.bool true) (.int .i64 0) (.int .i64 5) (.int .i64 0) (.int .i64 7) hgh (by omega)
  have b3 : Below gr w2 ((((((w2.setCell ⟨gr, 18, none⟩ (.bool false)).setCell ⟨gr, 19, none⟩ (.bool true)).setCell ⟨gr, 20, none⟩ (.int .i64 0)).setCell ⟨gr, 21, none⟩ (.int .i64 5)).setCell ⟨gr, 22, none⟩ (.int .i64 0)).setCell ⟨gr, 23, none⟩ (.int .i64 7)) := B2.out.trans ((((((set_only w2 gr 18 _).trans (set_only _ gr _ _)).trans (set_only _ gr _ _)).trans (set_only _ gr _ _)).trans (set_only _ gr _ _)).trans (set_only _ gr _ _) |>.below (B := gr) (by omega) (fun k hk e => by omega))
  obtain ⟨w3, ew3⟩ : ∃ W, ((((((w2.setCell ⟨gr, 18, none⟩ (.bool false)).setCell ⟨gr, 19, none⟩ (.bool true)).setCell ⟨gr, 20, none⟩ (.int .i64 0)).setCell ⟨gr, 21, none⟩ (.int .i64 5)).setCell ⟨gr, 22, none⟩ (.int .i64 0)).setCell ⟨gr, 23, none⟩ (.int .i64 7)) = W := ⟨_, rfl⟩
  rw [ew3] at R3 b3
  replace R3 := Lib.hid R3
  have B3 := Lib.hid b3
  replace ew3 := Lib.hid ew3
  clear b3 hgh hcs ev2 hgl
  have bt := build_top 0 5 0 7
  have bb := build_bools
  have bi := build_pair 0 5
  have bj := build_pair 0 7
  go_upto_region 4 with (fail)
  rw [ew3.out]
  clear f0 f1 f2 f3 f4 f5 y0 q0 y1 q1 y2 q2 y3 q3 y4 q4 y5 q5 hcs6 ew3 bt bi bj
  obtain ⟨g', cap', cur, ev, -, hgl, hgh, -, -, hcs, -⟩ := R3.out.open' (by simp)
  injection ev with ev1 ev2 ev3
  injection ev1 with ev1
  injection ev1 with ev1
  subst ev1; subst ev3
  have hcs6 : cur.size = 36 := hcs
  have R4 : Own fTp 31 ((((((w3.setCell ⟨gr, 6, none⟩ (.bool false)).setCell ⟨gr, 7, none⟩ (.bool true)).setCell ⟨gr, 8, none⟩ (.int .i64 0)).setCell ⟨gr, 9, none⟩ (.int .i64 100)).setCell ⟨gr, 10, none⟩ (.int .i64 0)).setCell ⟨gr, 11, none⟩ (.int .i64 4)) gr (.slice (some ⟨gr, 0, none⟩) 6 6) knownT := R3.out.top6 (j := 1) (x := zeroT) rfl false true 0 100 0 4
  obtain ⟨f0, f1, f2, f3, f4, f5, ⟨y0, q0⟩, ⟨y1, q1⟩, ⟨y2, q2⟩, ⟨y3, q3⟩, ⟨y4, q4⟩, ⟨y5, q5⟩⟩ := set6k 6 (.bool false) (.bool true) (.int .i64 0) (.int .i64 100) (.int .i64 0) (.int .i64 4) hgh (by omega)
  have b4 : Below gr w2 ((((((w3.setCell ⟨gr, 6, none⟩ (.bool false)).setCell ⟨gr, 7, none⟩ (.bool true)).setCell ⟨gr, 8, none⟩ (.int .i64 0)).setCell ⟨gr, 9, none⟩ (.int .i64 100)).setCell ⟨gr, 10, none⟩ (.int .i64 0)).setCell ⟨gr, 11, none⟩ (.int .i64 4)) := B3.out.trans ((((((set_only w3 gr 6 _).trans (set_only _ gr _ _)).trans (set_only _ gr _ _)).trans (set_only _ gr _ _)).trans (set_only _ gr _ _)).trans (set_only _ gr _ _) |>.below (B := gr) (by omega) (fun k hk e => by omega))
  obtain ⟨w4, ew4⟩ : ∃ W, ((((((w3.setCell ⟨gr, 6, none⟩ (.bool false)).setCell ⟨gr, 7, none⟩ (.bool true)).setCell ⟨gr, 8, none⟩ (.int .i64 0)).setCell ⟨gr, 9, none⟩ (.int .i64 100)).setCell ⟨gr, 10, none⟩ (.int .i64 0)).setCell ⟨gr, 11, none⟩ (.int .i64 4)) = W := ⟨_, rfl⟩
  rw [ew4] at R4 b4
  replace R4 := Lib.hid R4
  have B4 := Lib.hid b4
  replace ew4 := Lib.hid ew4
  clear b4 hgh hcs ev2 hgl
  have bt := build_top 0 100 0 4
  have bb := build_bools
  have bi := build_pair 0 100
  have bj := build_pair 0 4
  go_upto_region 5 with (fail)
  rw [ew4.out]
  clear f0 f1 f2 f3 f4 f5 y0 q0 y1 q1 y2 q2 y3 q3 y4 q4 y5 q5 hcs6 ew4 bt bi bj bb
  obtain ⟨A9, c9, e9, h9, -⟩ := R4.out.slice
  injection e9 with e91 e92 e93
  have b14 := Lib.hid (hBW.out w4 B4.out)
  have HQ := PQuotes_any (P3 1 (some ⟨a1, 0, none⟩) (some ⟨a2, 0, none⟩)) (some ⟨gr, 0, none⟩) 6 6 knownT 0 2 w4 (Lib.hid (hOkW.out w4 b14.out)) (Lib.hid (by rw [e91]; exact h9)) (Lib.hid knownT_ok) ⟨by decide, by decide⟩ ⟨by decide, by decide⟩ (by omega)
  rw [known_quotes] at HQ
  replace HQ : Hid (Calls Try.prog 13 #[.agg #[.string (str [67, 76]), .slice (some ⟨a1, 0, none⟩) 3 3, .int .i64 5, .int .i64 0, .int .i64 1000, .int .i64 200, .int .i64 1, .int .i64 4, .int .i64 2, .int .i64 40, .slice (some ⟨a2, 0, none⟩) 3 3], .slice (some ⟨gr, 0, none⟩) 6 6, .int .i64 0, .int .i64 2] w4 (AnsQ w4.heap.size w4 [⟨105, 4, 3, 2, 1, 2⟩])) := Lib.hid HQ
  obtain ⟨k0, k1, k2, k3, k4, k5, k6, k7, k8, k9, k10⟩ := row11 (hblk1.out w4 b14.out)
  clear e91 e92 e93 h9 R2 R3 R4
  go_wp2_with fail
  refine HQ.out.mono ?_
  rintro e w5 ⟨A, n, c, rfl, hv, -, -, -, -, b5⟩
  have B5 : Hid (Below w.heap.size w w5) := Lib.hid (hB1.out.trans ((b14.out.trans (b5.mono b14.out.size)).mono hB1.out.size))
  obtain rfl : n = 1 := hv.1.symm
  obtain ⟨b, off, rfl, x0, x1, x2, x3, x4, x5⟩ := hv.atQ (j := 0) (x := ⟨105, 4, 3, 2, 1, 2⟩) rfl
  simp only [Nat.zero_mul, Nat.add_zero] at x0 x1 x2 x3 x4 x5
  clear k0 k1 k2 k3 k4 k5 k6 k7 k8 k9 k10 hv b5 HQ
  go_wp2_with fail
  go_ret
  exact ⟨rfl, B5.out⟩
end Go.Proofs.Ytdeofifidjbolaa
