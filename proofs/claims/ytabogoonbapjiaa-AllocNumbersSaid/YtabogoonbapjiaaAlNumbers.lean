/-
  The law AllocNumbers: its walk.
-/
import Derived.Test.YtabogoonbapjiaaAlKnown
import Derived.Deep.RegionHeld3
import Derived.Deep.Cut
namespace Go.Proofs.Ytabogoonbapjiaa
open Go.RowKit
set_option linter.unusedVariables false
set_option linter.unusedSimpArgs false

def fourO : List Or := [⟨0, 0, 0, 5, false⟩, ⟨0, 0, 0, 9, true⟩, ⟨0, 0, 0, 3, true⟩, ⟨0, 0, 0, 14, false⟩]
theorem fourO_ok : OkO fourO := fun x hx => by
  simp only [fourO, List.mem_cons, List.not_mem_nil, or_false] at hx
  rcases hx with rfl | rfl | rfl | rfl <;> exact ⟨⟨by decide, by decide⟩, ⟨by decide, by decide⟩, ⟨by decide, by decide⟩, ⟨by decide, by decide⟩⟩
theorem fourO_len : fourO.length = 4 := rfl
theorem fourO_one : (fourO.take 1).length = 1 := rfl
theorem none_nil : allocL 2 4 2 40 [] 0 = [] := by kernel_rfl
theorem build_q (q : Int) : ∀ W : World, (Instr.build 23 #[(3, .int .i64 q)]).run Try.prog W = .ok (.agg #[.int .i64 0, .int .i64 0, .int .i64 0, .int .i64 q, .bool false]) W := fun W => by kernel_rfl
theorem build_t (q : Int) : ∀ W : World, (Instr.build 23 #[(3, .int .i64 q), (4, .bool true)]).run Try.prog W = .ok (.agg #[.int .i64 0, .int .i64 0, .int .i64 0, .int .i64 q, .bool true]) W := fun W => by kernel_rfl
attribute [irreducible] fourO
set_option maxRecDepth 100000 in
set_option maxHeartbeats 8000000 in
theorem ANumbers_walk (w : World) : Calls Try.prog 3 #[] w fun e w' => e = .returned (.bool true) ∧ Below w.heap.size w w' := by
  obtain ⟨W0, eW0⟩ : ∃ W, w.alloc (.cells #[.int .i64 0, .int .i64 0, .int .i64 0, .int .i64 5, .bool false, .int .i64 0, .int .i64 0, .int .i64 0, .int .i64 9, .bool true, .int .i64 0, .int .i64 0, .int .i64 0, .int .i64 3, .bool true, .int .i64 0, .int .i64 0, .int .i64 0, .int .i64 14, .bool false] 23) = W := ⟨_, rfl⟩
  obtain ⟨g, eg⟩ : ∃ g, w.heap.size = g := ⟨_, rfl⟩
  have hV0 : Hid (HV fO W0 (some ⟨g, 0, none⟩) 4 fourO) := Lib.hid (by
    have q := ors_lit w fourO 23 #[.int .i64 0, .int .i64 0, .int .i64 0, .int .i64 5, .bool false, .int .i64 0, .int .i64 0, .int .i64 0, .int .i64 9, .bool true, .int .i64 0, .int .i64 0, .int .i64 0, .int .i64 3, .bool true, .int .i64 0, .int .i64 0, .int .i64 0, .int .i64 14, .bool false] (by unfold fourO; rfl)
    rw [fourO_len] at q
    rw [← eW0, ← eg]; exact q)
  have hB0 : Hid (Below w.heap.size w W0) := Lib.hid (by rw [← eW0]; exact (Below.refl _ w).alloc (Nat.le_refl _) _)
  have bl1 := build_q 5
  have bl2 := build_t 9
  have bl3 := build_t 3
  have bl4 := build_q 14
  have okF := Lib.hid fourO_ok
  have okF1 := Lib.hid (okF.out.take 1)
  replace eW0 := Lib.hid eW0
  replace eg := Lib.hid eg
  go_enter Try.func3, Try.ntmps3
  go_upto_region 2 with (fail)
  rw [eW0.out, eg.out]
  clear eW0 bl1 bl2 bl3 bl4
  go_wp2_with fail
  go_loopw [2] (fun i wr => ∃ r : Int, i = .int .i64 r ∧ -1 ≤ r ∧ r ≤ 6 ∧ Hid (HV fO wr (some ⟨g, 0, none⟩) 4 fourO) ∧ Hid (Below w.heap.size w wr)) (fun i _ => (6 - intOf i).toNat)
  case atStart => exact ⟨-1, rfl, by omega, by omega, hV0, hB0⟩
  case round =>
    clear hV0 hB0
    rename World => wo
    obtain ⟨r, rfl, r1, r2, hV, hB⟩ := hrel
    by_cases hr : r < 6
    · have d1 : decide (r < 6) = true := decide_eq_true hr
      have HT := Lib.hid (Three_al r (by omega) (by omega) wo)
      go_wp2_with fail
      refine HT.out.mono ?_
      rintro e w1 ⟨P, rfl, p1, p2, p3, p4, pc, b1⟩
      clear HT
      have hV1 := hV.out.below b1
      have hB1 := below_up hB.out b1
      obtain ⟨codes, A1s, n1s, c1s, ticks, lows, highs, wides, rules, tops, leasts, parts, A2s, n2s, c2s, Qs, Rs⟩ := P
      simp only at p1 p2 p3 p4
      rw [show PD.val ⟨codes, A1s, n1s, c1s, ticks, lows, highs, wides, rules, tops, leasts, parts, A2s, n2s, c2s, Qs, Rs⟩ = .agg #[.string (str codes), .slice A1s n1s c1s, .int .i64 ticks, .int .i64 lows, .int .i64 highs, .int .i64 wides, .int .i64 rules, .int .i64 tops, .int .i64 leasts, .int .i64 parts, .slice A2s n2s c2s] from rfl]
      obtain ⟨rb, erb⟩ : ∃ x, w1.heap.size = x := ⟨_, rfl⟩
      obtain ⟨wb, ewb⟩ : ∃ W, w1.alloc (.cells #[.string (str codes), .slice A1s n1s c1s, .int .i64 ticks, .int .i64 lows, .int .i64 highs, .int .i64 wides, .int .i64 rules, .int .i64 tops, .int .i64 leasts, .int .i64 parts, .slice A2s n2s c2s] 28) = W := ⟨_, rfl⟩
      have bb : Below w1.heap.size w1 wb := by rw [← ewb]; exact (Below.refl _ w1).alloc (Nat.le_refl _) _
      have hVb := Lib.hid (hV1.below bb)
      have hBb := Lib.hid (below_up hB1 bb)
      have hrb : Hid (wb.heap[rb]? = some (.cells #[.string (str codes), .slice A1s n1s c1s, .int .i64 ticks, .int .i64 lows, .int .i64 highs, .int .i64 wides, .int .i64 rules, .int .i64 tops, .int .i64 leasts, .int .i64 parts, .slice A2s n2s c2s] 28 (0, 0))) := Lib.hid (by rw [← ewb, ← erb]; exact heap_alloc_new w1 _)
      replace ewb := Lib.hid ewb
      replace erb := Lib.hid erb
      replace pc := Lib.hid pc
      clear p1 p2 p3 p4 b1 hV1 hB1 bb hV hB
      go_upto_region 6 with (fail)
      rw [ewb.out, erb.out]
      clear ewb erb
      have hBn := Lib.hid (Below.refl wb.heap.size wb)
      go_wp2_with fail
      go_loopw [4] (fun i wr => ∃ q : Int, i = .int .i64 q ∧ -1 ≤ q ∧ q ≤ 33 ∧ Hid (Below wb.heap.size wb wr)) (fun i _ => (33 - intOf i).toNat)
      case atStart => exact ⟨-1, rfl, by omega, by omega, hBn⟩
      case round =>
        clear hBn
        obtain ⟨q, rfl, q1, q2, hN⟩ := hrel
        by_cases hq : q < 33
        · have d2 : decide (q < 33) = true := decide_eq_true hq
          have hA := Lib.hid (hVb.out.below hN.out)
          have hA1 := Lib.hid (hA.out.take (k := 1) (by omega))
          have hrr := Lib.hid (pd_block (p := ⟨codes, A1s, n1s, c1s, ticks, lows, highs, wides, rules, tops, leasts, parts, A2s, n2s, c2s, Qs, Rs⟩) hrb.out hN.out)
          obtain ⟨X1, nx1, hX1, hnx1, fx1, iX1⟩ := alloc_letters (PD.rule ⟨codes, A1s, n1s, c1s, ticks, lows, highs, wides, rules, tops, leasts, parts, A2s, n2s, c2s, Qs, Rs⟩) (PD.top ⟨codes, A1s, n1s, c1s, ticks, lows, highs, wides, rules, tops, leasts, parts, A2s, n2s, c2s, Qs, Rs⟩) (PD.least ⟨codes, A1s, n1s, c1s, ticks, lows, highs, wides, rules, tops, leasts, parts, A2s, n2s, c2s, Qs, Rs⟩) (PD.part ⟨codes, A1s, n1s, c1s, ticks, lows, highs, wides, rules, tops, leasts, parts, A2s, n2s, c2s, Qs, Rs⟩) fourO q
          have CA1 : Hid (∀ W, Below wr.heap.size wr W → Calls Try.prog 9 #[.agg #[.string (str codes), .slice A1s n1s c1s, .int .i64 ticks, .int .i64 lows, .int .i64 highs, .int .i64 wides, .int .i64 rules, .int .i64 tops, .int .i64 leasts, .int .i64 parts, .slice A2s n2s c2s], .slice (some ⟨g, 0, none⟩) 4 4, .int .i64 q] W (Gave W X1)) := Lib.hid (fun W b => by rw [← hX1]; exact AShare_any ⟨codes, A1s, n1s, c1s, ticks, lows, highs, wides, rules, tops, leasts, parts, A2s, n2s, c2s, Qs, Rs⟩ (some ⟨g, 0, none⟩) 4 4 fourO q W (by omega) (by omega) (by omega) pc (Lib.hid (hA.out.below b)) okF)
          have CI1 : Hid (∀ W, Below wr.heap.size wr W → Calls Try.prog 11 #[.slice (some ⟨g, 0, none⟩) 4 4] W (GaveO 47 W fourO)) := Lib.hid (fun W b => In_any (some ⟨g, 0, none⟩) 4 4 fourO W (by omega) (Lib.hid (hA.out.below b)) okF)
          have CR1 : Hid (∀ (W : World) (B : Option Addr) (d : Nat), HV fO W B 4 fourO → Calls Try.prog 10 #[.agg #[.string (str codes), .slice A1s n1s c1s, .int .i64 ticks, .int .i64 lows, .int .i64 highs, .int .i64 wides, .int .i64 rules, .int .i64 tops, .int .i64 leasts, .int .i64 parts, .slice A2s n2s c2s], .slice B 4 d, .int .i64 q] W (Gave W X1)) := Lib.hid (fun W B d hb => by rw [← hX1]; exact RAlloc_any ⟨codes, A1s, n1s, c1s, ticks, lows, highs, wides, rules, tops, leasts, parts, A2s, n2s, c2s, Qs, Rs⟩ B 4 d fourO q W (by omega) (by omega) (by omega) pc (Lib.hid hb) okF)
          replace hX1 := Lib.hid hX1
          replace hnx1 := Lib.hid hnx1
          obtain ⟨X2, nx2, hX2, hnx2, fx2, iX2⟩ := alloc_letters (PD.rule ⟨codes, A1s, n1s, c1s, ticks, lows, highs, wides, rules, tops, leasts, parts, A2s, n2s, c2s, Qs, Rs⟩) (PD.top ⟨codes, A1s, n1s, c1s, ticks, lows, highs, wides, rules, tops, leasts, parts, A2s, n2s, c2s, Qs, Rs⟩) (PD.least ⟨codes, A1s, n1s, c1s, ticks, lows, highs, wides, rules, tops, leasts, parts, A2s, n2s, c2s, Qs, Rs⟩) (PD.part ⟨codes, A1s, n1s, c1s, ticks, lows, highs, wides, rules, tops, leasts, parts, A2s, n2s, c2s, Qs, Rs⟩) (fourO.take 1) q
          have CA2 : Hid (∀ W, Below wr.heap.size wr W → Calls Try.prog 9 #[.agg #[.string (str codes), .slice A1s n1s c1s, .int .i64 ticks, .int .i64 lows, .int .i64 highs, .int .i64 wides, .int .i64 rules, .int .i64 tops, .int .i64 leasts, .int .i64 parts, .slice A2s n2s c2s], .slice (some ⟨g, 0, none⟩) 1 4, .int .i64 q] W (Gave W X2)) := Lib.hid (fun W b => by rw [← hX2]; exact AShare_any ⟨codes, A1s, n1s, c1s, ticks, lows, highs, wides, rules, tops, leasts, parts, A2s, n2s, c2s, Qs, Rs⟩ (some ⟨g, 0, none⟩) 1 4 (fourO.take 1) q W (by omega) (by omega) (by omega) pc (Lib.hid (hA1.out.below b)) okF1)
          have CI2 : Hid (∀ W, Below wr.heap.size wr W → Calls Try.prog 11 #[.slice (some ⟨g, 0, none⟩) 1 4] W (GaveO 47 W (fourO.take 1))) := Lib.hid (fun W b => In_any (some ⟨g, 0, none⟩) 1 4 (fourO.take 1) W (by omega) (Lib.hid (hA1.out.below b)) okF1)
          have CR2 : Hid (∀ (W : World) (B : Option Addr) (d : Nat), HV fO W B 1 (fourO.take 1) → Calls Try.prog 10 #[.agg #[.string (str codes), .slice A1s n1s c1s, .int .i64 ticks, .int .i64 lows, .int .i64 highs, .int .i64 wides, .int .i64 rules, .int .i64 tops, .int .i64 leasts, .int .i64 parts, .slice A2s n2s c2s], .slice B 1 d, .int .i64 q] W (Gave W X2)) := Lib.hid (fun W B d hb => by rw [← hX2]; exact RAlloc_any ⟨codes, A1s, n1s, c1s, ticks, lows, highs, wides, rules, tops, leasts, parts, A2s, n2s, c2s, Qs, Rs⟩ B 1 d (fourO.take 1) q W (by omega) (by omega) (by omega) pc (Lib.hid hb) okF1)
          replace hX2 := Lib.hid hX2
          replace hnx2 := Lib.hid hnx2
          have hSof : Hid (∀ W W' : World, (fun W : World => W.cell? ⟨rb, 0, none⟩ = some (.string (str codes)) ∧ W.cell? ⟨rb, 1, none⟩ = some (.slice A1s n1s c1s) ∧ W.cell? ⟨rb, 2, none⟩ = some (.int .i64 ticks) ∧ W.cell? ⟨rb, 3, none⟩ = some (.int .i64 lows) ∧ W.cell? ⟨rb, 4, none⟩ = some (.int .i64 highs) ∧ W.cell? ⟨rb, 5, none⟩ = some (.int .i64 wides) ∧ W.cell? ⟨rb, 6, none⟩ = some (.int .i64 rules) ∧ W.cell? ⟨rb, 7, none⟩ = some (.int .i64 tops) ∧ W.cell? ⟨rb, 8, none⟩ = some (.int .i64 leasts) ∧ W.cell? ⟨rb, 9, none⟩ = some (.int .i64 parts) ∧ W.cell? ⟨rb, 10, none⟩ = some (.slice A2s n2s c2s) ∧ Below wr.heap.size wr W) W → Below W.heap.size W W' → (fun W : World => W.cell? ⟨rb, 0, none⟩ = some (.string (str codes)) ∧ W.cell? ⟨rb, 1, none⟩ = some (.slice A1s n1s c1s) ∧ W.cell? ⟨rb, 2, none⟩ = some (.int .i64 ticks) ∧ W.cell? ⟨rb, 3, none⟩ = some (.int .i64 lows) ∧ W.cell? ⟨rb, 4, none⟩ = some (.int .i64 highs) ∧ W.cell? ⟨rb, 5, none⟩ = some (.int .i64 wides) ∧ W.cell? ⟨rb, 6, none⟩ = some (.int .i64 rules) ∧ W.cell? ⟨rb, 7, none⟩ = some (.int .i64 tops) ∧ W.cell? ⟨rb, 8, none⟩ = some (.int .i64 leasts) ∧ W.cell? ⟨rb, 9, none⟩ = some (.int .i64 parts) ∧ W.cell? ⟨rb, 10, none⟩ = some (.slice A2s n2s c2s) ∧ Below wr.heap.size wr W) W') := Lib.hid (fun W W' hs b => ⟨(b.cell (World.block_lt_of_cell? W _ hs.1)).trans hs.1, (b.cell (World.block_lt_of_cell? W _ hs.2.1)).trans hs.2.1, (b.cell (World.block_lt_of_cell? W _ hs.2.2.1)).trans hs.2.2.1, (b.cell (World.block_lt_of_cell? W _ hs.2.2.2.1)).trans hs.2.2.2.1, (b.cell (World.block_lt_of_cell? W _ hs.2.2.2.2.1)).trans hs.2.2.2.2.1, (b.cell (World.block_lt_of_cell? W _ hs.2.2.2.2.2.1)).trans hs.2.2.2.2.2.1, (b.cell (World.block_lt_of_cell? W _ hs.2.2.2.2.2.2.1)).trans hs.2.2.2.2.2.2.1, (b.cell (World.block_lt_of_cell? W _ hs.2.2.2.2.2.2.2.1)).trans hs.2.2.2.2.2.2.2.1, (b.cell (World.block_lt_of_cell? W _ hs.2.2.2.2.2.2.2.2.1)).trans hs.2.2.2.2.2.2.2.2.1, (b.cell (World.block_lt_of_cell? W _ hs.2.2.2.2.2.2.2.2.2.1)).trans hs.2.2.2.2.2.2.2.2.2.1, (b.cell (World.block_lt_of_cell? W _ hs.2.2.2.2.2.2.2.2.2.2.1)).trans hs.2.2.2.2.2.2.2.2.2.2.1, hs.2.2.2.2.2.2.2.2.2.2.2.trans (b.mono hs.2.2.2.2.2.2.2.2.2.2.2.size)⟩)
          have bzz : Below wr.heap.size wr wr.drew := (Below.refl _ wr).drew
          obtain ⟨y0, y1, y2, y3, y4, y5, y6, y7, y8, y9, y10⟩ := row11 (pd_block (p := ⟨codes, A1s, n1s, c1s, ticks, lows, highs, wides, rules, tops, leasts, parts, A2s, n2s, c2s, Qs, Rs⟩) hrr.out bzz)
          have z0 : (fun W : World => W.cell? ⟨rb, 0, none⟩ = some (.string (str codes)) ∧ W.cell? ⟨rb, 1, none⟩ = some (.slice A1s n1s c1s) ∧ W.cell? ⟨rb, 2, none⟩ = some (.int .i64 ticks) ∧ W.cell? ⟨rb, 3, none⟩ = some (.int .i64 lows) ∧ W.cell? ⟨rb, 4, none⟩ = some (.int .i64 highs) ∧ W.cell? ⟨rb, 5, none⟩ = some (.int .i64 wides) ∧ W.cell? ⟨rb, 6, none⟩ = some (.int .i64 rules) ∧ W.cell? ⟨rb, 7, none⟩ = some (.int .i64 tops) ∧ W.cell? ⟨rb, 8, none⟩ = some (.int .i64 leasts) ∧ W.cell? ⟨rb, 9, none⟩ = some (.int .i64 parts) ∧ W.cell? ⟨rb, 10, none⟩ = some (.slice A2s n2s c2s) ∧ Below wr.heap.size wr W) wr.drew := ⟨y0, y1, y2, y3, y4, y5, y6, y7, y8, y9, y10, bzz⟩
          clear y0 y1 y2 y3 y4 y5 y6 y7 y8 y9 y10 bzz hA hA1 hrr
          go_upto_region 9 with (fail)
          refine wp_region_held_drew (S := (fun W : World => W.cell? ⟨rb, 0, none⟩ = some (.string (str codes)) ∧ W.cell? ⟨rb, 1, none⟩ = some (.slice A1s n1s c1s) ∧ W.cell? ⟨rb, 2, none⟩ = some (.int .i64 ticks) ∧ W.cell? ⟨rb, 3, none⟩ = some (.int .i64 lows) ∧ W.cell? ⟨rb, 4, none⟩ = some (.int .i64 highs) ∧ W.cell? ⟨rb, 5, none⟩ = some (.int .i64 wides) ∧ W.cell? ⟨rb, 6, none⟩ = some (.int .i64 rules) ∧ W.cell? ⟨rb, 7, none⟩ = some (.int .i64 tops) ∧ W.cell? ⟨rb, 8, none⟩ = some (.int .i64 leasts) ∧ W.cell? ⟨rb, 9, none⟩ = some (.int .i64 parts) ∧ W.cell? ⟨rb, 10, none⟩ = some (.slice A2s n2s c2s) ∧ Below wr.heap.size wr W)) (by kernel_rfl) z0 (fun hHeld => ?_)
          obtain ⟨v0, ev0⟩ : ∃ W, wr.drew = W := ⟨_, rfl⟩
          rw [ev0] at z0 hHeld ⊢
          refine wpAnyH_take (i := 0) (v := .agg #[.string (str codes), .slice A1s n1s c1s, .int .i64 ticks, .int .i64 lows, .int .i64 highs, .int .i64 wides, .int .i64 rules, .int .i64 tops, .int .i64 leasts, .int .i64 parts, .slice A2s n2s c2s]) rfl (by kernel_rfl) (by kernel_rfl) (by kernel_rfl) (fun _ _ _ h => h) (Or.inl ⟨by kernel_rfl, fun W hSw => ?_⟩) (by assumption) ?_
          · (try dsimp only at hSw)
            go_simp
          (try simp only [Act.put, List.setIfInBounds_toArray, List.set_cons_zero, List.set_cons_succ])
          refine wpAnyH_take (i := 1) (v := .slice (some ⟨g, 0, none⟩) 4 4) rfl (by kernel_rfl) (by kernel_rfl) (by kernel_rfl) (fun _ _ _ h => h) (Or.inl ⟨by kernel_rfl, fun W hSw => ?_⟩) (by assumption) ?_
          · (try dsimp only at hSw)
            go_simp
          (try simp only [Act.put, List.setIfInBounds_toArray, List.set_cons_zero, List.set_cons_succ])
          refine wpAnyH_take (i := 2) (v := .int .i64 q) rfl (by kernel_rfl) (by kernel_rfl) (by kernel_rfl) (fun _ _ _ h => h) (Or.inl ⟨by kernel_rfl, fun W hSw => ?_⟩) (by assumption) ?_
          · (try dsimp only at hSw)
            go_simp
          (try simp only [Act.put, List.setIfInBounds_toArray, List.set_cons_zero, List.set_cons_succ])
          refine wpAnyH_take (i := 4) (v := .agg #[.string (str codes), .slice A1s n1s c1s, .int .i64 ticks, .int .i64 lows, .int .i64 highs, .int .i64 wides, .int .i64 rules, .int .i64 tops, .int .i64 leasts, .int .i64 parts, .slice A2s n2s c2s]) rfl (by kernel_rfl) (by kernel_rfl) (by kernel_rfl) (fun _ _ _ h => h) (Or.inl ⟨by kernel_rfl, fun W hSw => ?_⟩) (by assumption) ?_
          · (try dsimp only at hSw)
            go_simp
          (try simp only [Act.put, List.setIfInBounds_toArray, List.set_cons_zero, List.set_cons_succ])
          refine wpAnyH_take (i := 5) (v := .slice (some ⟨g, 0, none⟩) 4 4) rfl (by kernel_rfl) (by kernel_rfl) (by kernel_rfl) (fun _ _ _ h => h) (Or.inl ⟨by kernel_rfl, fun W hSw => ?_⟩) (by assumption) ?_
          · (try dsimp only at hSw)
            go_simp
          (try simp only [Act.put, List.setIfInBounds_toArray, List.set_cons_zero, List.set_cons_succ])
          refine wpAnyH_take (i := 7) (v := .int .i64 q) rfl (by kernel_rfl) (by kernel_rfl) (by kernel_rfl) (fun _ _ _ h => h) (Or.inl ⟨by kernel_rfl, fun W hSw => ?_⟩) (by assumption) ?_
          · (try dsimp only at hSw)
            go_simp
          (try simp only [Act.put, List.setIfInBounds_toArray, List.set_cons_zero, List.set_cons_succ])
          refine wpAnyH_ready (rs := [3]) (by kernel_rfl) (by simp) ?_
          refine AllReadyH.cons rfl (fun K hK => ?_) AllReadyH.nil
          go_simp
          refine (CA1.out _ z0.2.2.2.2.2.2.2.2.2.2.2).mono ?_
          rintro e v1 ⟨v, rfl, rr, bb⟩
          obtain ⟨P1, d1, rfl, p1, -, -, -, -⟩ := rr.slice iX1.out
          rw [hnx1.out] at p1 ⊢
          have z1 := hSof.out _ _ z0 bb
          replace p1 := Lib.hid p1
          clear rr bb CA1
          go_wp2_with fail
          refine hK.out _ _ z1 (fun hHeld => ?_)
          clear hK K
          (try simp only [Act.put, List.setIfInBounds_toArray, List.set_cons_zero, List.set_cons_succ])
          refine wpAnyH_ready (rs := [6]) (by kernel_rfl) (by simp) ?_
          refine AllReadyH.cons rfl (fun K hK => ?_) AllReadyH.nil
          go_simp
          refine (CI1.out _ z1.2.2.2.2.2.2.2.2.2.2.2).mono ?_
          rintro e v2 ⟨v, rfl, oo, bb⟩
          obtain ⟨I1, di1, rfl, hi1, -, -, -, -⟩ := oo.slice
          rw [fourO_len] at hi1 ⊢
          have z2 := hSof.out _ _ z1 bb
          replace p1 := Lib.hid (p1.out.below bb)
          replace hi1 := Lib.hid hi1
          clear oo bb CI1
          go_wp2_with fail
          refine hK.out _ _ z2 (fun hHeld => ?_)
          clear hK K
          (try simp only [Act.put, List.setIfInBounds_toArray, List.set_cons_zero, List.set_cons_succ])
          refine wpAnyH_ready (rs := [8]) (by kernel_rfl) (by simp) ?_
          refine AllReadyH.cons rfl (fun K hK => ?_) AllReadyH.nil
          go_simp
          refine (CR1.out _ _ _ hi1.out).mono ?_
          rintro e v3 ⟨v, rfl, rr, bb⟩
          obtain ⟨R1, dr1, rfl, r1, -, -, -, -⟩ := rr.slice iX1.out
          rw [hnx1.out] at r1 ⊢
          have z3 := hSof.out _ _ z2 bb
          replace p1 := Lib.hid (p1.out.below bb)
          replace r1 := Lib.hid r1
          clear rr bb CR1 hi1
          go_wp2_with fail
          refine hK.out _ _ z3 (fun hHeld => ?_)
          clear hK K
          (try simp only [Act.put, List.setIfInBounds_toArray, List.set_cons_zero, List.set_cons_succ])
          refine wpAnyH_ready (rs := [9]) (by kernel_rfl) (by simp) ?_
          refine AllReadyH.cons rfl (fun K hK => ?_) AllReadyH.nil
          go_simp
          refine (Same_yes P1 R1 nx1 d1 dr1 X1 v3 (by omega) p1 r1).mono ?_
          rintro e ux ⟨rfl, dd, rfl⟩
          have z4 := hSof.out _ _ z3 (below_drewN (Below.refl v3.heap.size v3) dd)
          clear p1 r1
          obtain ⟨v4, hv4⟩ : ∃ x, v3.drewN dd = x := ⟨_, rfl⟩
          rw [hv4] at z4 ⊢
          clear hv4
          go_wp2_with fail
          refine hK.out _ _ z4 (fun hHeld => ?_)
          clear hK K
          (try simp only [Act.put, List.setIfInBounds_toArray, List.set_cons_zero, List.set_cons_succ])
          refine wpAnyH_take (i := 10) (v := .bool false) rfl (by kernel_rfl) (by kernel_rfl) (by kernel_rfl) (fun _ _ _ h => h) (Or.inl ⟨by kernel_rfl, fun W hSw => ?_⟩) (by assumption) ?_
          · (try dsimp only at hSw)
            go_simp
          (try simp only [Act.put, List.setIfInBounds_toArray, List.set_cons_zero, List.set_cons_succ])
          refine wpAnyH_take (i := 11) (v := .bool false) rfl (by kernel_rfl) (by kernel_rfl) (by kernel_rfl) (fun _ _ _ h => h) (Or.inl ⟨by kernel_rfl, fun W hSw => ?_⟩) (by assumption) ?_
          · (try dsimp only at hSw)
            go_simp
          (try simp only [Act.put, List.setIfInBounds_toArray, List.set_cons_zero, List.set_cons_succ])
          refine wpAnyH_take (i := 12) (v := .agg #[.string (str codes), .slice A1s n1s c1s, .int .i64 ticks, .int .i64 lows, .int .i64 highs, .int .i64 wides, .int .i64 rules, .int .i64 tops, .int .i64 leasts, .int .i64 parts, .slice A2s n2s c2s]) rfl (by kernel_rfl) (by kernel_rfl) (by kernel_rfl) (fun _ _ _ h => h) (Or.inl ⟨by kernel_rfl, fun W hSw => ?_⟩) (by assumption) ?_
          · (try dsimp only at hSw)
            go_simp
          (try simp only [Act.put, List.setIfInBounds_toArray, List.set_cons_zero, List.set_cons_succ])
          refine wpAnyH_take (i := 13) (v := .slice (some ⟨g, 0, none⟩) 4 4) rfl (by kernel_rfl) (by kernel_rfl) (by kernel_rfl) (fun _ _ _ h => h) (Or.inl ⟨by kernel_rfl, fun W hSw => ?_⟩) (by assumption) ?_
          · (try dsimp only at hSw)
            go_simp
          (try simp only [Act.put, List.setIfInBounds_toArray, List.set_cons_zero, List.set_cons_succ])
          refine wpAnyH_take (i := 14) (v := .slice (some ⟨g, 0, none⟩) 1 4) rfl (by kernel_rfl) (by kernel_rfl) (by kernel_rfl) (fun _ _ _ h => h) (Or.inl ⟨by kernel_rfl, fun W hSw => ?_⟩) (by assumption) ?_
          · (try dsimp only at hSw)
            go_simp
          (try simp only [Act.put, List.setIfInBounds_toArray, List.set_cons_zero, List.set_cons_succ])
          refine wpAnyH_take (i := 15) (v := .int .i64 q) rfl (by kernel_rfl) (by kernel_rfl) (by kernel_rfl) (fun _ _ _ h => h) (Or.inl ⟨by kernel_rfl, fun W hSw => ?_⟩) (by assumption) ?_
          · (try dsimp only at hSw)
            go_simp
          (try simp only [Act.put, List.setIfInBounds_toArray, List.set_cons_zero, List.set_cons_succ])
          refine wpAnyH_take (i := 17) (v := .agg #[.string (str codes), .slice A1s n1s c1s, .int .i64 ticks, .int .i64 lows, .int .i64 highs, .int .i64 wides, .int .i64 rules, .int .i64 tops, .int .i64 leasts, .int .i64 parts, .slice A2s n2s c2s]) rfl (by kernel_rfl) (by kernel_rfl) (by kernel_rfl) (fun _ _ _ h => h) (Or.inl ⟨by kernel_rfl, fun W hSw => ?_⟩) (by assumption) ?_
          · (try dsimp only at hSw)
            go_simp
          (try simp only [Act.put, List.setIfInBounds_toArray, List.set_cons_zero, List.set_cons_succ])
          refine wpAnyH_take (i := 18) (v := .slice (some ⟨g, 0, none⟩) 4 4) rfl (by kernel_rfl) (by kernel_rfl) (by kernel_rfl) (fun _ _ _ h => h) (Or.inl ⟨by kernel_rfl, fun W hSw => ?_⟩) (by assumption) ?_
          · (try dsimp only at hSw)
            go_simp
          (try simp only [Act.put, List.setIfInBounds_toArray, List.set_cons_zero, List.set_cons_succ])
          refine wpAnyH_take (i := 19) (v := .slice (some ⟨g, 0, none⟩) 1 4) rfl (by kernel_rfl) (by kernel_rfl) (by kernel_rfl) (fun _ _ _ h => h) (Or.inl ⟨by kernel_rfl, fun W hSw => ?_⟩) (by assumption) ?_
          · (try dsimp only at hSw)
            go_simp
          (try simp only [Act.put, List.setIfInBounds_toArray, List.set_cons_zero, List.set_cons_succ])
          refine wpAnyH_take (i := 21) (v := .int .i64 q) rfl (by kernel_rfl) (by kernel_rfl) (by kernel_rfl) (fun _ _ _ h => h) (Or.inl ⟨by kernel_rfl, fun W hSw => ?_⟩) (by assumption) ?_
          · (try dsimp only at hSw)
            go_simp
          (try simp only [Act.put, List.setIfInBounds_toArray, List.set_cons_zero, List.set_cons_succ])
          refine wpAnyH_ready (rs := [16]) (by kernel_rfl) (by simp) ?_
          refine AllReadyH.cons rfl (fun K hK => ?_) AllReadyH.nil
          go_simp
          refine (CA2.out _ z4.2.2.2.2.2.2.2.2.2.2.2).mono ?_
          rintro e v5 ⟨v, rfl, rr, bb⟩
          obtain ⟨P2, d2, rfl, p2, -, -, -, -⟩ := rr.slice iX2.out
          rw [hnx2.out] at p2 ⊢
          have z5 := hSof.out _ _ z4 bb
          replace p2 := Lib.hid p2
          clear rr bb CA2
          go_wp2_with fail
          refine hK.out _ _ z5 (fun hHeld => ?_)
          clear hK K
          (try simp only [Act.put, List.setIfInBounds_toArray, List.set_cons_zero, List.set_cons_succ])
          refine wpAnyH_ready (rs := [20]) (by kernel_rfl) (by simp) ?_
          refine AllReadyH.cons rfl (fun K hK => ?_) AllReadyH.nil
          go_simp
          refine (CI2.out _ z5.2.2.2.2.2.2.2.2.2.2.2).mono ?_
          rintro e v6 ⟨v, rfl, oo, bb⟩
          obtain ⟨I2, di2, rfl, hi2, -, -, -, -⟩ := oo.slice
          rw [fourO_one] at hi2 ⊢
          have z6 := hSof.out _ _ z5 bb
          replace p2 := Lib.hid (p2.out.below bb)
          replace hi2 := Lib.hid hi2
          clear oo bb CI2
          go_wp2_with fail
          refine hK.out _ _ z6 (fun hHeld => ?_)
          clear hK K
          (try simp only [Act.put, List.setIfInBounds_toArray, List.set_cons_zero, List.set_cons_succ])
          refine wpAnyH_ready (rs := [22]) (by kernel_rfl) (by simp) ?_
          refine AllReadyH.cons rfl (fun K hK => ?_) AllReadyH.nil
          go_simp
          refine (CR2.out _ _ _ hi2.out).mono ?_
          rintro e v7 ⟨v, rfl, rr, bb⟩
          obtain ⟨R2, dr2, rfl, r2, -, -, -, -⟩ := rr.slice iX2.out
          rw [hnx2.out] at r2 ⊢
          have z7 := hSof.out _ _ z6 bb
          replace p2 := Lib.hid (p2.out.below bb)
          replace r2 := Lib.hid r2
          clear rr bb CR2 hi2
          go_wp2_with fail
          refine hK.out _ _ z7 (fun hHeld => ?_)
          clear hK K
          (try simp only [Act.put, List.setIfInBounds_toArray, List.set_cons_zero, List.set_cons_succ])
          refine wpAnyH_ready (rs := [23]) (by kernel_rfl) (by simp) ?_
          refine AllReadyH.cons rfl (fun K hK => ?_) AllReadyH.nil
          go_simp
          refine (Same_yes P2 R2 nx2 d2 dr2 X2 v7 (by omega) p2 r2).mono ?_
          rintro e ux ⟨rfl, dd, rfl⟩
          have z8 := hSof.out _ _ z7 (below_drewN (Below.refl v7.heap.size v7) dd)
          clear p2 r2
          obtain ⟨v8, hv8⟩ : ∃ x, v7.drewN dd = x := ⟨_, rfl⟩
          rw [hv8] at z8 ⊢
          clear hv8
          go_wp2_with fail
          refine hK.out _ _ z8 (fun hHeld => ?_)
          clear hK K
          (try simp only [Act.put, List.setIfInBounds_toArray, List.set_cons_zero, List.set_cons_succ])
          refine wpAnyH_take (i := 24) (v := .bool false) rfl (by kernel_rfl) (by kernel_rfl) (by kernel_rfl) (fun _ _ _ h => h) (Or.inl ⟨by kernel_rfl, fun W hSw => ?_⟩) (by assumption) ?_
          · (try dsimp only at hSw)
            go_simp
          (try simp only [Act.put, List.setIfInBounds_toArray, List.set_cons_zero, List.set_cons_succ])
          refine wpAnyH_take (i := 25) (v := .bool false) rfl (by kernel_rfl) (by kernel_rfl) (by kernel_rfl) (fun _ _ _ h => h) (Or.inl ⟨by kernel_rfl, fun W hSw => ?_⟩) (by assumption) ?_
          · (try dsimp only at hSw)
            go_simp
          (try simp only [Act.put, List.setIfInBounds_toArray, List.set_cons_zero, List.set_cons_succ])
          refine wpAnyH_done (by kernel_rfl) ?_ _
          (try simp only [List.getElem_toArray, List.getElem_cons_succ, List.getElem_cons_zero, Act.put, List.setIfInBounds_toArray, List.set_cons_zero, List.set_cons_succ])
          have BB := Lib.hid (below_up hN.out z8.2.2.2.2.2.2.2.2.2.2.2)
          clear z8 hHeld
          go_wp2_with fail
          go_roundw
          case rel => exact ⟨q + 1, by go_num, by omega, by omega, BB⟩
          case measure => simp [intOf]; omega
        · have d2 : decide (q < 33) = false := decide_eq_false hq
          have hVn := Lib.hid (hVb.out.below hN.out)
          have hBn := Lib.hid (below_up hBb.out hN.out)
          clear hVb hBb hN hrb pc
          go_wp2_with fail
          go_roundw
          case rel => exact ⟨r + 1, by go_num, by omega, by omega, hVn, hBn⟩
          case measure => simp [intOf]; omega
    · have d1 : decide (r < 6) = false := decide_eq_false hr
      have HT := Lib.hid (Three_al 2 (by omega) (by omega) wo)
      go_wp2_with fail
      refine HT.out.mono ?_
      rintro e w1 ⟨P, rfl, p1, p2, p3, p4, pc, b1⟩
      have hB1 := Lib.hid (below_up hB.out b1)
      have HS := AShare_any P none 0 0 [] 0 w1 (by omega) (by omega) (by omega) (Lib.hid pc) (Lib.hid (hv_nil _ _)) (Lib.hid (fun x hx => by cases hx))
      rw [p1, p2, p3, p4, none_nil] at HS
      replace HS := Lib.hid HS
      clear HT hB hV p1 p2 p3 p4 pc b1
      go_wp2_with fail
      refine HS.out.mono ?_
      rintro e w2 ⟨v, rfl, rr, bb⟩
      obtain ⟨A5, c5, rfl, h5, -, -, -, -⟩ := rr.slice (fun y hy => by cases hy)
      have hB2 := Lib.hid (below_up hB1.out bb)
      clear HS rr bb h5 hB1
      go_wp2_with fail
      refine (Known_any _).mono ?_
      rintro e w3 ⟨rfl, bz⟩
      have hB3 := Lib.hid (below_up hB2.out bz)
      clear bz
      go_wp2_with fail
      go_ret
      exact ⟨rfl, by first | exact hB3.out | (rw [← eg.out]; exact hB3.out)⟩
end Go.Proofs.Ytabogoonbapjiaa
