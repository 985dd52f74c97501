/-
  Contract: Product, of the keep.
-/
import Derived.Test.YtpfgmebajefjaaaKeepFit
import Derived.Test.YtpfgmebajefjaaaRefPrice
import Derived.Below
import Derived.Maps.AppendAt
import Derived.Deep.AppendLies
import Derived.OwnWalk
import Derived.Deep.RegionHeld3
import Derived.Deep.Cut
import Derived.Deep.CutRange
import Derived.Laws.Tables
import Derived.Laws.CopyOwn
namespace Go.Proofs.Ytpfgmebajefjaaa
open Go.RowKit
set_option linter.unusedVariables false
set_option linter.unusedSimpArgs false

/-- A right product, by raw numbers; where its slices lie is left open. -/
def keepP (p : PD) (A1 : Option Addr) (c1 : Nat) (A2 : Option Addr) (c2 : Nat) : PD :=
  ⟨[206, 169], A1, 2 + withinN p.n1 3, c1, 1 + (withinN p.tick 9 : Int), -20 * (1 + (withinN p.tick 9 : Int)), 100 * (1 + (withinN p.tick 9 : Int)), (1 + (withinN p.tick 9 : Int)) * (5 + (withinN p.wide 60 : Int)), 1 + (withinN p.rule 2 : Int), (withinN p.top 9 : Int), 1 + (withinN p.least 4 : Int), (withinN p.part 100 : Int),
    A2, 2 + withinN p.n1 3, c2, fun i => 10 * (i : Int) + 3, fun i => (1 + (withinN p.tick 9 : Int)) * (10 + (i : Int))⟩
theorem wrap_in {x : Int} (h1 : -9223372036854775808 ≤ x) (h2 : x ≤ 9223372036854775807) : IntKind.i64.wrap x = x := by rw [IntKind.wrap_i64]; omega
theorem push_step {w0 wr w1 : World} {B lb rb : Nat} {t e1 e2 : TypeId} {cs zs : Array Value} {o : Obj} {v1 v2 : Value} {n1 n2 m : Nat} {x1 x2 x1' : List Value} {g cap : Nat} (f : Nat)
    (hb : wr.heap[lb]? = some (.cells cs t (0, 0))) (hz : wr.heap[rb]? = some (.cells zs t (0, 0))) (HB : Below B w0 wr) (hBl : B ≤ lb) (hrl : rb < lb) (hsz : lb + 1 ≤ wr.heap.size)
    (R1 : wr.ownsRow (lb + 1) e1 1 v1 n1 x1) (R2 : wr.ownsRow (lb + 1) e2 1 v2 n2 x2) (hs : ∀ k, v1.ownBlock = some k → v2.ownBlock ≠ some k)
    (h1 : w1.ownsRow (lb + 1) e1 1 (.slice (some ⟨g, 0, none⟩) m cap) m x1') (hg : (wr.alloc o).grownBy w1 v1.ownBlock) (hat : v1.ownBlock = some g ∨ g = wr.heap.size + 1) :
    (w1.cell? ⟨lb, f, none⟩ = cs[f]? ∧ w1.frozen? ⟨lb, f, none⟩ = false) ∧ (∀ j, w1.cell? ⟨lb, j, none⟩ = cs[j]?) ∧
    ((w1.setCell ⟨lb, f, none⟩ (.slice (some ⟨g, 0, none⟩) m cap)).heap[lb]? = some (.cells (cs.setIfInBounds f (.slice (some ⟨g, 0, none⟩) m cap)) t (0, 0))) ∧
    ((w1.setCell ⟨lb, f, none⟩ (.slice (some ⟨g, 0, none⟩) m cap)).heap[rb]? = some (.cells zs t (0, 0))) ∧
    Below B w0 (w1.setCell ⟨lb, f, none⟩ (.slice (some ⟨g, 0, none⟩) m cap)) ∧
    (w1.setCell ⟨lb, f, none⟩ (.slice (some ⟨g, 0, none⟩) m cap)).ownsRow (lb + 1) e1 1 (.slice (some ⟨g, 0, none⟩) m cap) m x1' ∧
    (w1.setCell ⟨lb, f, none⟩ (.slice (some ⟨g, 0, none⟩) m cap)).ownsRow (lb + 1) e2 1 v2 n2 x2 ∧
    v2.ownBlock ≠ some g ∧ lb + 1 ≤ (w1.setCell ⟨lb, f, none⟩ (.slice (some ⟨g, 0, none⟩) m cap)).heap.size := by
  have hsa : (wr.alloc o).heap.size = wr.heap.size + 1 := World.size_alloc ..
  have own1 : ∀ k, v1.ownBlock = some k → lb + 1 ≤ k := fun k hk => (World.ownsRow.lt R1 k hk).1
  have keep : ∀ k, k ≤ lb → w1.heap[k]? = wr.heap[k]? := fun k hk => (hg.block k (by omega) (fun e => by have := own1 k e.symm; omega)).trans (heap_alloc_old _ _ (by omega))
  have hb1 := (keep lb (by omega)).trans hb
  have hz1 := (keep rb (by omega)).trans hz
  have HB1 : Below B w0 w1 := (HB.alloc (by omega) o).grown hg (by omega) (fun k hk => by have := own1 k hk; omega)
  have hsz1 : lb + 1 ≤ w1.heap.size := by have := hg.size; omega
  have hne : v2.ownBlock ≠ some g := by
    rcases hat with e | e
    · exact hs g e
    · intro e2
      have := (World.ownsRow.lt R2 g e2).2
      omega
  have R21 : w1.ownsRow (lb + 1) e2 1 v2 n2 x2 := (R2.alloc o).kept hg (by
    cases hv : v1.ownBlock with
    | none =>
      cases hv2 : v2.ownBlock with
      | none => exact .inl rfl
      | some k => exact .inr (fun e => by cases e)
    | some k => exact .inr (hs k hv))
  refine ⟨⟨cell_of_row w1 lb f _ t _ hb1, frozen_of_row w1 lb f _ t hb1⟩, fun j => cell_of_row w1 lb j _ t _ hb1, heap_setCell_same w1 lb f _ t _ hb1, ?_, HB1.setCell (show B ≤ lb from hBl) _, ownsRow_setCell_below h1 (show lb < lb + 1 by omega) _, ownsRow_setCell_below R21 (show lb < lb + 1 by omega) _, hne, ?_⟩
  · rw [heap_setCell_other _ _ _ _ (show rb ≠ lb by omega)]; exact hz1
  · rw [show (w1.setCell ⟨lb, f, none⟩ (.slice (some ⟨g, 0, none⟩) m cap)).heap.size = w1.heap.size from by simp [World.setCell]]; exact hsz1
theorem row11 {w : World} {g : Nat} {t : TypeId} {x0 x1 x2 x3 x4 x5 x6 x7 x8 x9 x10 : Value} (h : w.heap[g]? = some (.cells #[x0, x1, x2, x3, x4, x5, x6, x7, x8, x9, x10] t (0, 0))) :
    w.cell? ⟨g, 0, none⟩ = some x0 ∧ w.cell? ⟨g, 1, none⟩ = some x1 ∧ w.cell? ⟨g, 2, none⟩ = some x2 ∧ w.cell? ⟨g, 3, none⟩ = some x3 ∧ w.cell? ⟨g, 4, none⟩ = some x4 ∧ w.cell? ⟨g, 5, none⟩ = some x5 ∧ w.cell? ⟨g, 6, none⟩ = some x6 ∧ w.cell? ⟨g, 7, none⟩ = some x7 ∧ w.cell? ⟨g, 8, none⟩ = some x8 ∧ w.cell? ⟨g, 9, none⟩ = some x9 ∧ w.cell? ⟨g, 10, none⟩ = some x10 := by
  refine ⟨?_, ?_, ?_, ?_, ?_, ?_, ?_, ?_, ?_, ?_, ?_⟩ <;> (rw [cell_of_row w g _ _ t _ h]; rfl)
theorem nums_own {w : World} {base n c : Nat} {t : TypeId} {A : Option Addr} {N : Nat → Int} (h : w.ownsRow base t 1 (.slice A n c) n ((List.range n).map (fun j => .int .i64 (N j)))) (hN : ∀ j, j < n → I64 (N j)) : Nums w A n N := by
  intro j hj
  obtain ⟨g, cap, e, _, _⟩ := World.ownsRow.form h (by omega)
  injection e with e1 e2 e3
  subst e1
  refine ⟨g, 0, rfl, ?_, hN j hj⟩
  rw [Nat.zero_add, World.ownsRow.cellAt h j (by omega)]
  simp [hj]
theorem own_cap {w : World} {base n c : Nat} {t : TypeId} {A : Option Addr} {xs : List Value} (h : w.ownsRow base t 1 (.slice A n c) n xs) : n ≤ c ∧ c ≤ 9223372036854775807 := by
  rcases h.2 with ⟨e, e2⟩ | ⟨g, cap, cur, e, _, _, h1, h2, _⟩
  · injection e with _ _ e3
    omega
  · injection e with _ _ e3
    simp only [maxLen] at h2
    omega
theorem nums_setRow {w : World} {g n : Nat} {cs : Array Value} {A : Option Addr} {N : Nat → Int} (h : Nums w A n N) (hne : ∀ b off, A = some ⟨b, off, none⟩ → b ≠ g) : Nums (w.setRow g cs) A n N := by
  intro j hj
  obtain ⟨b, off, e, h1, h2⟩ := h j hj
  refine ⟨b, off, e, ?_, h2⟩
  rw [← h1]
  exact World.cell?_of_block (setRow_other w g b cs (hne b off e))
theorem range_snoc (f : Nat → Value) (i : Nat) : (List.range i).map f ++ [f i] = (List.range (i + 1)).map f := by rw [List.range_succ, List.map_append]; rfl
theorem info_i : (Try.prog.info? 3).map (fun i => (i.zero, i.size, i.bytes)) = some (some (.int .i64 0), 1, 8) := by kernel_rfl
theorem info_l : (Try.prog.info? 2).map (fun i => (i.zero, i.size, i.bytes)) = some (some (.int .i64 0), 1, 8) := by kernel_rfl
set_option maxRecDepth 100000 in
set_option maxHeartbeats 1600000 in
theorem KProduct_any (p : PD) (w : World) (h : Hid (p.Fit w)) :
    Calls Try.prog 12 #[p.val] w fun e w' => ∃ A1 c1 A2 c2, e = .returned (keepP p A1 c1 A2 c2).val ∧ (keepP p A1 c1 A2 c2).Ok w' ∧ Below w.heap.size w w' := by
  unfold keepP
  obtain ⟨i0, hi0, hz0, hz1, hz2⟩ := info_parts info_i
  obtain ⟨i1, hi1, hy0, hy1, hy2⟩ := info_parts info_l
  have bkn := withinN_le (p.n1 : Int) 3
  obtain ⟨kn, ekn⟩ : ∃ k, withinN (p.n1 : Int) 3 = k := ⟨_, rfl⟩
  rw [ekn] at bkn
  have bkt := withinN_le p.tick 9
  obtain ⟨kt, ekt⟩ : ∃ k, withinN p.tick 9 = k := ⟨_, rfl⟩
  rw [ekt] at bkt
  have bkr := withinN_le p.rule 2
  obtain ⟨kr, ekr⟩ : ∃ k, withinN p.rule 2 = k := ⟨_, rfl⟩
  rw [ekr] at bkr
  have bko := withinN_le p.top 9
  obtain ⟨ko, eko⟩ : ∃ k, withinN p.top 9 = k := ⟨_, rfl⟩
  rw [eko] at bko
  have bkl := withinN_le p.least 4
  obtain ⟨kl, ekl⟩ : ∃ k, withinN p.least 4 = k := ⟨_, rfl⟩
  rw [ekl] at bkl
  have bkp := withinN_le p.part 100
  obtain ⟨kp, ekp⟩ : ∃ k, withinN p.part 100 = k := ⟨_, rfl⟩
  rw [ekp] at bkp
  have bkw := withinN_le p.wide 60
  obtain ⟨kw, ekw⟩ : ∃ k, withinN p.wide 60 = k := ⟨_, rfl⟩
  rw [ekw] at bkw
  simp only [ekn, ekt, ekr, eko, ekl, ekp, ekw]
  have l1 := h.out.l1
  have m1 := h.out.m1
  have l2 := h.out.l2
  have m2 := h.out.m2
  obtain ⟨ti1, ti2⟩ := h.out.tick
  obtain ⟨lo1, lo2⟩ := h.out.low
  obtain ⟨hg1, hg2⟩ := h.out.high
  obtain ⟨wi1, wi2⟩ := h.out.wide
  obtain ⟨ru1, ru2⟩ := h.out.rule
  obtain ⟨to1, to2⟩ := h.out.top
  obtain ⟨le1, le2⟩ := h.out.least
  obtain ⟨pa1, pa2⟩ := h.out.part
  have HO1 : Hid (∀ W, Below w.heap.size w W → Nums W p.A1 p.n1 p.Q) := Lib.hid (fun W b => h.out.months.below b)
  have HO2 : Hid (∀ W, Below w.heap.size w W → Nums W p.A2 p.n2 p.R) := Lib.hid (fun W b => h.out.settle.below b)
  have HW : ∀ (x M : Int) (v : Nat), ((x = (p.n1 : Int) ∧ M = 3 ∧ v = kn) ∨ (x = p.tick ∧ M = 9 ∧ v = kt) ∨ (x = p.rule ∧ M = 2 ∧ v = kr) ∨ (x = p.top ∧ M = 9 ∧ v = ko) ∨ (x = p.least ∧ M = 4 ∧ v = kl) ∨ (x = p.part ∧ M = 100 ∧ v = kp) ∨ (x = p.wide ∧ M = 60 ∧ v = kw)) → ∀ W, Calls Try.prog 13 #[.int .i64 x, .int .i64 0, .int .i64 M] W fun e w' => e = .returned (.int .i64 v) ∧ w' = W := fun x M v hd W => by
    rcases hd with ⟨rfl, rfl, rfl⟩ | ⟨rfl, rfl, rfl⟩ | ⟨rfl, rfl, rfl⟩ | ⟨rfl, rfl, rfl⟩ | ⟨rfl, rfl, rfl⟩ | ⟨rfl, rfl, rfl⟩ | ⟨rfl, rfl, rfl⟩
    · rw [← ekn]; exact Within_any (p.n1 : Int) 3 W (by omega) (by omega) (by omega)
    · rw [← ekt]; exact Within_any p.tick 9 W (by omega) ti1 ti2
    · rw [← ekr]; exact Within_any p.rule 2 W (by omega) ru1 ru2
    · rw [← eko]; exact Within_any p.top 9 W (by omega) to1 to2
    · rw [← ekl]; exact Within_any p.least 4 W (by omega) le1 le2
    · rw [← ekp]; exact Within_any p.part 100 W (by omega) pa1 pa2
    · rw [← ekw]; exact Within_any p.wide 60 W (by omega) wi1 wi2
  clear ekn ekt ekr eko ekl ekp ekw h
  obtain ⟨code, A1, n1, c1, tick, low, high, wide, rule, top, least, part, A2, n2, c2, Q, R⟩ := p
  simp only at l1 m1 l2 m2 ti1 ti2 lo1 lo2 hg1 hg2 wi1 wi2 ru1 ru2 to1 to2 le1 le2 pa1 pa2 HO1 HO2 HW
  replace HW := Lib.hid HW
  show Calls Try.prog 12 #[.agg #[.string (str code), .slice A1 n1 c1, .int .i64 tick, .int .i64 low, .int .i64 high, .int .i64 wide, .int .i64 rule, .int .i64 top, .int .i64 least, .int .i64 part, .slice A2 n2 c2]] w _
  obtain ⟨W0, eW0⟩ : ∃ W0, w.alloc (.cells #[.string (str code), .slice A1 n1 c1, .int .i64 tick, .int .i64 low, .int .i64 high, .int .i64 wide, .int .i64 rule, .int .i64 top, .int .i64 least, .int .i64 part, .slice A2 n2 c2] 25) = W0 := ⟨_, rfl⟩
  obtain ⟨pb, epb⟩ : ∃ pb, w.heap.size = pb := ⟨_, rfl⟩
  have hblk0 : W0.heap[pb]? = some (.cells #[.string (str code), .slice A1 n1 c1, .int .i64 tick, .int .i64 low, .int .i64 high, .int .i64 wide, .int .i64 rule, .int .i64 top, .int .i64 least, .int .i64 part, .slice A2 n2 c2] 25 (0, 0)) := by
    rw [← eW0, ← epb]; exact heap_alloc_new w _
  have hB0 : Below w.heap.size w W0 := by rw [← eW0]; exact (Below.refl _ w).alloc (Nat.le_refl _) _
  have hpb0 : pb < W0.heap.size := (Array.getElem?_eq_some_iff.1 hblk0).1
  have kk : ∀ W : World, W.heap[pb]? = some (.cells #[.string (str code), .slice A1 n1 c1, .int .i64 tick, .int .i64 low, .int .i64 high, .int .i64 wide, .int .i64 rule, .int .i64 top, .int .i64 least, .int .i64 part, .slice A2 n2 c2] 25 (0, 0)) → W.cell? ⟨pb, 0, none⟩ = some (.string (str code)) ∧ W.cell? ⟨pb, 1, none⟩ = some (.slice A1 n1 c1) ∧ W.cell? ⟨pb, 2, none⟩ = some (.int .i64 tick) ∧ W.cell? ⟨pb, 3, none⟩ = some (.int .i64 low) ∧ W.cell? ⟨pb, 4, none⟩ = some (.int .i64 high) ∧ W.cell? ⟨pb, 5, none⟩ = some (.int .i64 wide) ∧ W.cell? ⟨pb, 6, none⟩ = some (.int .i64 rule) ∧ W.cell? ⟨pb, 7, none⟩ = some (.int .i64 top) ∧ W.cell? ⟨pb, 8, none⟩ = some (.int .i64 least) ∧ W.cell? ⟨pb, 9, none⟩ = some (.int .i64 part) ∧ W.cell? ⟨pb, 10, none⟩ = some (.slice A2 n2 c2) := by
    intro W hb
    refine ⟨?_, ?_, ?_, ?_, ?_, ?_, ?_, ?_, ?_, ?_, ?_⟩ <;> (rw [Lib.cell_of_heap hb]; rfl)
  replace kk := Lib.hid kk
  replace eW0 := Lib.hid eW0
  replace epb := Lib.hid epb
  have a0 : (w.alloc (.cells #[.string (str code), .slice A1 n1 c1, .int .i64 tick, .int .i64 low, .int .i64 high, .int .i64 wide, .int .i64 rule, .int .i64 top, .int .i64 least, .int .i64 part, .slice A2 n2 c2] 25)).cell? ⟨w.heap.size, 0, none⟩ = some (.string (str code)) := by
    rw [eW0.out, epb.out]; exact (kk.out W0 hblk0).1
  have a1 : (w.alloc (.cells #[.string (str code), .slice A1 n1 c1, .int .i64 tick, .int .i64 low, .int .i64 high, .int .i64 wide, .int .i64 rule, .int .i64 top, .int .i64 least, .int .i64 part, .slice A2 n2 c2] 25)).cell? ⟨w.heap.size, 1, none⟩ = some (.slice A1 n1 c1) := by
    rw [eW0.out, epb.out]; exact (kk.out W0 hblk0).2.1
  have a2 : (w.alloc (.cells #[.string (str code), .slice A1 n1 c1, .int .i64 tick, .int .i64 low, .int .i64 high, .int .i64 wide, .int .i64 rule, .int .i64 top, .int .i64 least, .int .i64 part, .slice A2 n2 c2] 25)).cell? ⟨w.heap.size, 2, none⟩ = some (.int .i64 tick) := by
    rw [eW0.out, epb.out]; exact (kk.out W0 hblk0).2.2.1
  have a3 : (w.alloc (.cells #[.string (str code), .slice A1 n1 c1, .int .i64 tick, .int .i64 low, .int .i64 high, .int .i64 wide, .int .i64 rule, .int .i64 top, .int .i64 least, .int .i64 part, .slice A2 n2 c2] 25)).cell? ⟨w.heap.size, 3, none⟩ = some (.int .i64 low) := by
    rw [eW0.out, epb.out]; exact (kk.out W0 hblk0).2.2.2.1
  have a4 : (w.alloc (.cells #[.string (str code), .slice A1 n1 c1, .int .i64 tick, .int .i64 low, .int .i64 high, .int .i64 wide, .int .i64 rule, .int .i64 top, .int .i64 least, .int .i64 part, .slice A2 n2 c2] 25)).cell? ⟨w.heap.size, 4, none⟩ = some (.int .i64 high) := by
    rw [eW0.out, epb.out]; exact (kk.out W0 hblk0).2.2.2.2.1
  have a5 : (w.alloc (.cells #[.string (str code), .slice A1 n1 c1, .int .i64 tick, .int .i64 low, .int .i64 high, .int .i64 wide, .int .i64 rule, .int .i64 top, .int .i64 least, .int .i64 part, .slice A2 n2 c2] 25)).cell? ⟨w.heap.size, 5, none⟩ = some (.int .i64 wide) := by
    rw [eW0.out, epb.out]; exact (kk.out W0 hblk0).2.2.2.2.2.1
  have a6 : (w.alloc (.cells #[.string (str code), .slice A1 n1 c1, .int .i64 tick, .int .i64 low, .int .i64 high, .int .i64 wide, .int .i64 rule, .int .i64 top, .int .i64 least, .int .i64 part, .slice A2 n2 c2] 25)).cell? ⟨w.heap.size, 6, none⟩ = some (.int .i64 rule) := by
    rw [eW0.out, epb.out]; exact (kk.out W0 hblk0).2.2.2.2.2.2.1
  have a7 : (w.alloc (.cells #[.string (str code), .slice A1 n1 c1, .int .i64 tick, .int .i64 low, .int .i64 high, .int .i64 wide, .int .i64 rule, .int .i64 top, .int .i64 least, .int .i64 part, .slice A2 n2 c2] 25)).cell? ⟨w.heap.size, 7, none⟩ = some (.int .i64 top) := by
    rw [eW0.out, epb.out]; exact (kk.out W0 hblk0).2.2.2.2.2.2.2.1
  have a8 : (w.alloc (.cells #[.string (str code), .slice A1 n1 c1, .int .i64 tick, .int .i64 low, .int .i64 high, .int .i64 wide, .int .i64 rule, .int .i64 top, .int .i64 least, .int .i64 part, .slice A2 n2 c2] 25)).cell? ⟨w.heap.size, 8, none⟩ = some (.int .i64 least) := by
    rw [eW0.out, epb.out]; exact (kk.out W0 hblk0).2.2.2.2.2.2.2.2.1
  have a9 : (w.alloc (.cells #[.string (str code), .slice A1 n1 c1, .int .i64 tick, .int .i64 low, .int .i64 high, .int .i64 wide, .int .i64 rule, .int .i64 top, .int .i64 least, .int .i64 part, .slice A2 n2 c2] 25)).cell? ⟨w.heap.size, 9, none⟩ = some (.int .i64 part) := by
    rw [eW0.out, epb.out]; exact (kk.out W0 hblk0).2.2.2.2.2.2.2.2.2.1
  have a10 : (w.alloc (.cells #[.string (str code), .slice A1 n1 c1, .int .i64 tick, .int .i64 low, .int .i64 high, .int .i64 wide, .int .i64 rule, .int .i64 top, .int .i64 least, .int .i64 part, .slice A2 n2 c2] 25)).cell? ⟨w.heap.size, 10, none⟩ = some (.slice A2 n2 c2) := by
    rw [eW0.out, epb.out]; exact (kk.out W0 hblk0).2.2.2.2.2.2.2.2.2.2
  go_enter Try.func12, Try.ntmps12
  go_wp2_with fail
  have hs0 : W0.heap.size = pb + 1 := by rw [← eW0.out, World.size_alloc, epb.out]
  rw [eW0.out]
  rw [epb.out]
  clear a0 a1 a2 a3 a4 a5 a6 a7 a8 a9 a10 eW0
  obtain ⟨k0, k1, k2, k3, k4, k5, k6, k7, k8, k9, k10⟩ := kk.out W0 hblk0
  obtain ⟨W1, eW1⟩ : ∃ W, W0.alloc (.cells #[.string (str []), .slice none 0 0, .int .i64 0, .int .i64 0, .int .i64 0, .int .i64 0, .int .i64 0, .int .i64 0, .int .i64 0, .int .i64 0, .slice none 0 0] 25) = W := ⟨_, rfl⟩
  rw [show (.string { data := #[] } : Value) = .string (str []) from rfl] at *
  rw [eW1]
  have hq1 : W1.heap[pb + 1]? = some (.cells #[.string (str []), .slice none 0 0, .int .i64 0, .int .i64 0, .int .i64 0, .int .i64 0, .int .i64 0, .int .i64 0, .int .i64 0, .int .i64 0, .slice none 0 0] 25 (0, 0)) := by rw [← eW1, ← hs0]; exact heap_alloc_new W0 _
  have hblk1 : W1.heap[pb]? = some (.cells #[.string (str code), .slice A1 n1 c1, .int .i64 tick, .int .i64 low, .int .i64 high, .int .i64 wide, .int .i64 rule, .int .i64 top, .int .i64 least, .int .i64 part, .slice A2 n2 c2] 25 (0, 0)) := by rw [← eW1]; exact (heap_alloc_old _ _ hpb0).trans hblk0
  have hB1 : Below w.heap.size w W1 := by rw [← eW1]; exact hB0.alloc hB0.size _
  have hpl : w.heap.size ≤ pb := by rw [epb.out]; exact Nat.le_refl _
  have hs1 : W1.heap.size = pb + 2 := by rw [← eW1, World.size_alloc, hs0]
  clear eW1 k0 k1 k2 k3 k4 k5 k6 k7 k8 k9 k10 hblk0 hpb0 hB0
  obtain ⟨k0, k1, k2, k3, k4, k5, k6, k7, k8, k9, k10⟩ := kk.out W1 hblk1
  refine (HW.out (n1 : Int) 3 kn (.inl ⟨rfl, rfl, rfl⟩) _).mono ?_
  rintro e W1 ⟨rfl, rfl⟩
  go_wp2_with fail
  refine (HW.out tick 9 kt (.inr (.inl ⟨rfl, rfl, rfl⟩)) _).mono ?_
  rintro e W1 ⟨rfl, rfl⟩
  go_upto_region 3 with (fail)
  have hzw : (fun W => W.cell? ⟨pb, 6, none⟩ = some (.int .i64 rule) ∧ W.cell? ⟨pb, 7, none⟩ = some (.int .i64 top) ∧ W.cell? ⟨pb, 8, none⟩ = some (.int .i64 least) ∧ W.cell? ⟨pb, 9, none⟩ = some (.int .i64 part) ∧ Below w.heap.size w W) W1 := ⟨k6, k7, k8, k9, hB1⟩
  have hSof : Hid (∀ W W' : World, (fun W => W.cell? ⟨pb, 6, none⟩ = some (.int .i64 rule) ∧ W.cell? ⟨pb, 7, none⟩ = some (.int .i64 top) ∧ W.cell? ⟨pb, 8, none⟩ = some (.int .i64 least) ∧ W.cell? ⟨pb, 9, none⟩ = some (.int .i64 part) ∧ Below w.heap.size w W) W → Below W.heap.size W W' → (fun W => W.cell? ⟨pb, 6, none⟩ = some (.int .i64 rule) ∧ W.cell? ⟨pb, 7, none⟩ = some (.int .i64 top) ∧ W.cell? ⟨pb, 8, none⟩ = some (.int .i64 least) ∧ W.cell? ⟨pb, 9, none⟩ = some (.int .i64 part) ∧ Below w.heap.size w W) W') := Lib.hid (fun W W' h b => ⟨(b.cell (World.block_lt_of_cell? W _ h.1)).trans h.1, (b.cell (World.block_lt_of_cell? W _ h.2.1)).trans h.2.1, (b.cell (World.block_lt_of_cell? W _ h.2.2.1)).trans h.2.2.1, (b.cell (World.block_lt_of_cell? W _ h.2.2.2.1)).trans h.2.2.2.1, h.2.2.2.2.trans (b.mono h.2.2.2.2.size)⟩)
  have hw0 := hSof.out _ _ hzw ((Below.refl _ W1).drew)
  have hw1 := hSof.out _ _ hzw (((Below.refl _ W1).alloc (Nat.le_refl _) (.cells #[.string (str []), .slice none 0 0, .int .i64 0, .int .i64 0, .int .i64 0, .int .i64 0, .int .i64 0, .int .i64 0, .int .i64 0, .int .i64 0, .slice none 0 0] 25)).drew)
  simp only at hw0 hw1
  replace hzw := Lib.hid hzw
  clear k0 k1 k2 k3 k4 k5 k6 k7 k8 k9 k10
  have q1 : IntKind.i64.wrap (-20 * (1 + (kt : Int))) = -20 * (1 + (kt : Int)) := wrap_in (by omega) (by omega)
  have q2 : IntKind.i64.wrap (100 * (1 + (kt : Int))) = 100 * (1 + (kt : Int)) := wrap_in (by omega) (by omega)
  have q3 : IntKind.i64.wrap (1 + (kr : Int)) = 1 + (kr : Int) := wrap_in (by omega) (by omega)
  have q4 : IntKind.i64.wrap (1 + (kl : Int)) = 1 + (kl : Int) := wrap_in (by omega) (by omega)
  obtain ⟨W2, eW2⟩ : ∃ W, (W1.alloc (.cells #[.string (str [206, 169]), .slice none 0 0, .int .i64 (1 + (kt : Int)), .int .i64 (-20 * (1 + (kt : Int))), .int .i64 (100 * (1 + (kt : Int))), .int .i64 0, .int .i64 (1 + (kr : Int)), .int .i64 (ko : Int), .int .i64 (1 + (kl : Int)), .int .i64 (kp : Int), .slice none 0 0] 25)).drew = W := ⟨_, rfl⟩
  have HA := Lib.hid (show W2.heap[pb]? = some (.cells #[.string (str code), .slice A1 n1 c1, .int .i64 tick, .int .i64 low, .int .i64 high, .int .i64 wide, .int .i64 rule, .int .i64 top, .int .i64 least, .int .i64 part, .slice A2 n2 c2] 25 (0, 0)) ∧ W2.heap[pb + 1]? = some (.cells #[.string (str []), .slice none 0 0, .int .i64 0, .int .i64 0, .int .i64 0, .int .i64 0, .int .i64 0, .int .i64 0, .int .i64 0, .int .i64 0, .slice none 0 0] 25 (0, 0)) ∧ W2.heap[pb + 2]? = some (.cells #[.string (str [206, 169]), .slice none 0 0, .int .i64 (1 + (kt : Int)), .int .i64 (-20 * (1 + (kt : Int))), .int .i64 (100 * (1 + (kt : Int))), .int .i64 0, .int .i64 (1 + (kr : Int)), .int .i64 (ko : Int), .int .i64 (1 + (kl : Int)), .int .i64 (kp : Int), .slice none 0 0] 25 (0, 0)) ∧ Below w.heap.size w W2 ∧ W2.heap.size = pb + 3 from by
    rw [← eW2]
    exact ⟨(heap_alloc_old _ _ (by omega)).trans hblk1, (heap_alloc_old _ _ (by omega)).trans hq1, by rw [← hs1]; exact heap_alloc_new W1 _, (hB1.alloc hB1.size _).drew, by show (W1.alloc _).heap.size = _; rw [World.size_alloc, hs1]⟩)
  replace eW2 := Lib.hid eW2
  go_cut [5] from 16 to 35 (fun c wx => c = .pointer (some ⟨pb + 2, 0, none⟩) ∧ wx = W2)
  case first =>
    go_region_held3 (fun W => W.cell? ⟨pb, 6, none⟩ = some (.int .i64 rule) ∧ W.cell? ⟨pb, 7, none⟩ = some (.int .i64 top) ∧ W.cell? ⟨pb, 8, none⟩ = some (.int .i64 least) ∧ W.cell? ⟨pb, 9, none⟩ = some (.int .i64 part) ∧ Below w.heap.size w W) (first | assumption | exact hw0 | exact hw1 | exact hSof.out _ _ hzw.out (((Below.refl _ W1).alloc (Nat.le_refl _) _).drew))
      ((go_at_call 13; refine (HW.out _ _ _ (by first | exact .inr (.inr (.inl ⟨rfl, rfl, rfl⟩)) | exact .inr (.inr (.inr (.inl ⟨rfl, rfl, rfl⟩))) | exact .inr (.inr (.inr (.inr (.inl ⟨rfl, rfl, rfl⟩)))) | exact .inr (.inr (.inr (.inr (.inr (.inl ⟨rfl, rfl, rfl⟩)))))) _).mono ?_; rintro e w4 ⟨rfl, rfl⟩))
    all_goals go_wp2_with fail
    all_goals go_meet
    all_goals exact ⟨rfl, by rw [← eW2.out]; first | rfl | (simp only [q1, q2, q3, q4]; rfl)⟩
  case rest =>
    obtain ⟨rfl, rfl⟩ := hcut
    obtain ⟨hblk2, hq2, hl2, hB2, hs2⟩ := HA.out
    clear eW2 hw0 hw1 hzw hSof HA hs1 hB1 hblk1 hq1 q1 q2 q3 q4
    obtain ⟨k0, k1, k2, k3, k4, k5, k6, k7, k8, k9, k10⟩ := kk.out wc hblk2
    obtain ⟨j0, j1, j2, j3, j4, j5, j6, j7, j8, j9, j10⟩ := row11 hl2
    have z5 := frozen_of_row wc (pb + 2) 5 _ _ hl2
    have x1 : 0 ≤ (1 + (kt : Int)) * (5 + (kw : Int)) := Int.mul_nonneg (by omega) (by omega)
    have x2 : (1 + (kt : Int)) * (5 + (kw : Int)) ≤ 10 * 65 := Int.mul_le_mul (by omega) (by omega) (by omega) (by omega)
    have x3 : (1 + (kt : Int)) * (5 + (kw : Int)) ≤ 9223372036854775807 := by omega
    have x4 : -9223372036854775808 ≤ (1 + (kt : Int)) * (5 + (kw : Int)) := by omega
    have hl3 := Lib.hid (heap_setCell_same wc (pb + 2) 5 _ _ (.int .i64 ((1 + (kt : Int)) * (5 + (kw : Int)))) hl2)
    have hq3 := Lib.hid ((heap_setCell_other wc ⟨pb + 2, 5, none⟩ (pb + 1) (.int .i64 ((1 + (kt : Int)) * (5 + (kw : Int)))) (show pb + 1 ≠ pb + 2 by omega)).trans hq2)
    have hB3 := Lib.hid (hB2.setCell (p := ⟨pb + 2, 5, none⟩) (show w.heap.size ≤ pb + 2 by omega) (.int .i64 ((1 + (kt : Int)) * (5 + (kw : Int)))))
    have hs3 : (wc.setCell ⟨pb + 2, 5, none⟩ (.int .i64 ((1 + (kt : Int)) * (5 + (kw : Int))))).heap.size = pb + 3 := by rw [← hs2]; simp [World.setCell]
    replace hs3 := Lib.hid hs3
    clear hq2 hblk2
    go_wp2_with fail
    refine (HW.out wide 60 kw (.inr (.inr (.inr (.inr (.inr (.inr ⟨rfl, rfl, rfl⟩)))))) _).mono ?_
    rintro e wc ⟨rfl, rfl⟩
    go_wp2_with fail
    clear k0 k1 k2 k3 k4 k5 k6 k7 k8 k9 k10 j0 j1 j2 j3 j4 j5 j6 j7 j8 j9 j10 z5 hl2 hB2 hs2 HW
    go_loopw [6] (fun iv wr => ∃ (i : Nat) (B1 : Option Addr) (d1 : Nat) (B2 : Option Addr) (d2 : Nat), iv = .int .i64 i ∧ i ≤ 2 + kn ∧ Hid (wr.heap[pb + 2]? = some (.cells #[.string (str [206, 169]), .slice B1 i d1, .int .i64 (1 + (kt : Int)), .int .i64 (-20 * (1 + (kt : Int))), .int .i64 (100 * (1 + (kt : Int))), .int .i64 ((1 + (kt : Int)) * (5 + (kw : Int))), .int .i64 (1 + (kr : Int)), .int .i64 (ko : Int), .int .i64 (1 + (kl : Int)), .int .i64 (kp : Int), .slice B2 i d2] 25 (0, 0))) ∧ Hid (wr.heap[pb + 1]? = some (.cells #[.string (str []), .slice none 0 0, .int .i64 0, .int .i64 0, .int .i64 0, .int .i64 0, .int .i64 0, .int .i64 0, .int .i64 0, .int .i64 0, .slice none 0 0] 25 (0, 0))) ∧ Hid (Below w.heap.size w wr) ∧
      Hid (wr.ownsRow (pb + 3) 3 1 (.slice B1 i d1) i ((List.range i).map (fun (j : Nat) => Value.int .i64 (10 * (j : Int) + 3)))) ∧ Hid (wr.ownsRow (pb + 3) 2 1 (.slice B2 i d2) i ((List.range i).map (fun (j : Nat) => Value.int .i64 ((1 + (kt : Int)) * (10 + (j : Int)))))) ∧
      Hid (∀ k, Value.ownBlock (.slice B1 i d1) = some k → Value.ownBlock (.slice B2 i d2) ≠ some k) ∧ Hid (pb + 3 ≤ wr.heap.size)) (fun i _ => 2 + kn - (intOf i).toNat)
    case atStart => exact ⟨0, none, 0, none, 0, rfl, by omega, hl3, hq3, hB3, Lib.hid (World.ownsRow_nil _ _ _ _), Lib.hid (World.ownsRow_nil _ _ _ _), Lib.hid (fun k h => by cases h), Lib.hid (by have := hs3.out; omega)⟩
    case round =>
      clear hl3 hq3 hB3 hs3
      obtain ⟨i, B1, d1, B2, d2, rfl, hi, hl, hq, HB, R1, R2, hs, hsz⟩ := hrel
      by_cases hlt : i < 2 + kn
      · have e1 : decide ((i : Int) < 2 + (kn : Int)) = true := decide_eq_true (by omega)
        obtain ⟨j0, j1, j2, j3, j4, j5, j6, j7, j8, j9, j10⟩ := row11 hl.out
        have y1 : 0 ≤ (1 + (kt : Int)) * (10 + (i : Int)) := Int.mul_nonneg (by omega) (by omega)
        have y2 : (1 + (kt : Int)) * (10 + (i : Int)) ≤ 10 * 15 := Int.mul_le_mul (by omega) (by omega) (by omega) (by omega)
        have y3 : (1 + (kt : Int)) * (10 + (i : Int)) ≤ 9223372036854775807 := by omega
        have y4 : -9223372036854775808 ≤ (1 + (kt : Int)) * (10 + (i : Int)) := by omega
        have hsz0 := hsz.out
        go_wp2_with (at_builtin; refine wpList_append_lies _ rfl (.tmp 49) (.tmp 53) 22 rfl (pb + 2 + 1) 3 i0 (.int .i64 0) 1 8 Try.underlying22 hi0 hz0 hz1 hz2 rfl (by decide) (.slice B1 i d1) i _ rfl ((R1.out).alloc _) ⟨wr.heap.size, 0, none⟩ 1 1 [.int .i64 (10 * (i : Int) + 3)] rfl rfl (cell_one_new _ _ _) (ints_oneCell .i64 [10 * (i : Int) + 3]) (by omega) (by unfold maxLen; omega) (by omega) (by rw [World.size_alloc]; omega) _ rfl ?_)
        intro g cap w4 hown4 hg4 hat hlt4
        obtain ⟨⟨c4, f4⟩, -, hl4, hq4, HB4, R14, R24, hne, hsz4⟩ := push_step 1 hl.out hq.out HB.out (show w.heap.size ≤ pb + 2 by omega) (show pb + 1 < pb + 2 by omega) hsz0 R1.out R2.out hs.out hown4 hg4 hat
        have c5 : w4.cell? ⟨pb + 2, 1, none⟩ = some (.slice B1 i d1) := c4
        clear j0 j1 j2 j3 j4 j5 j6 j7 j8 j9 j10 c4 hown4 hg4 hat hlt4 hl hq HB R1 R2 hs hsz hsz0
        go_upto_region 9 with (fail)
        obtain ⟨W5, eW5⟩ : ∃ W, w4.setCell ⟨pb + 2, 1, none⟩ (.slice (some ⟨g, 0, none⟩) (i + 1) cap) = W := ⟨_, rfl⟩
        rw [eW5] at hl4 hq4 HB4 R14 R24 hsz4 ⊢
        clear eW5 c5 f4
        replace hl4 : W5.heap[pb + 2]? = some (.cells #[.string (str [206, 169]), .slice (some ⟨g, 0, none⟩) (i + 1) cap, .int .i64 (1 + (kt : Int)), .int .i64 (-20 * (1 + (kt : Int))), .int .i64 (100 * (1 + (kt : Int))), .int .i64 ((1 + (kt : Int)) * (5 + (kw : Int))), .int .i64 (1 + (kr : Int)), .int .i64 (ko : Int), .int .i64 (1 + (kl : Int)), .int .i64 (kp : Int), .slice B2 i d2] 25 (0, 0)) := hl4
        obtain ⟨j0, j1, j2, j3, j4, j5, j6, j7, j8, j9, j10⟩ := row11 hl4
        go_wp2_with (at_builtin; refine wpList_append_lies _ rfl (.tmp 57) (.tmp 62) 23 rfl (pb + 2 + 1) 2 i1 (.int .i64 0) 1 8 Try.underlying23 hi1 hy0 hy1 hy2 rfl (by decide) (.slice B2 i d2) i _ rfl (R24.alloc _) ⟨W5.heap.size, 0, none⟩ 1 1 [.int .i64 ((1 + (kt : Int)) * (10 + (i : Int)))] rfl rfl (cell_one_new _ _ _) (ints_oneCell .i64 [(1 + (kt : Int)) * (10 + (i : Int))]) (by omega) (by unfold maxLen; omega) (by omega) (by rw [World.size_alloc]; omega) _ rfl ?_)
        intro g6 cap6 w6 hown6 hg6 hat6 hlt6
        obtain ⟨⟨c6, f6⟩, -, hl6, hq6, HB6, R26, R16, hne6, hsz6⟩ := push_step 10 hl4 hq4 HB4 (show w.heap.size ≤ pb + 2 by omega) (show pb + 1 < pb + 2 by omega) hsz4 R24 R14 (fun k hk e => hne (by rw [show k = g from by injection e with e; exact e.symm] at hk; exact hk)) hown6 hg6 hat6
        have c7 : w6.cell? ⟨pb + 2, 10, none⟩ = some (.slice B2 i d2) := c6
        clear j0 j1 j2 j3 j4 j5 j6 j7 j8 j9 j10 c6 hown6 hg6 hat6 hlt6 hl4 hq4 HB4 R14 R24 hsz4
        replace hl6 := Lib.hid hl6
        replace hq6 := Lib.hid hq6
        replace HB6 := Lib.hid HB6
        replace hsz6 := Lib.hid hsz6
        have R17 := Lib.hid (range_snoc (fun (j : Nat) => Value.int .i64 (10 * (j : Int) + 3)) i ▸ R16)
        have R27 := Lib.hid (range_snoc (fun (j : Nat) => Value.int .i64 ((1 + (kt : Int)) * (10 + (j : Int)))) i ▸ R26)
        clear R16 R26
        go_wp2_with fail
        go_roundw
        case rel => exact ⟨i + 1, _, _, _, _, by go_num, by omega, hl6, hq6, HB6, R17, R27, Lib.hid (fun k (hk : some g = some k) (e : some g6 = some k) => hne6 (show some g = some g6 from hk.trans e.symm)), hsz6⟩
        case measure => simp [intOf]; omega
      · have hieq := Lib.hid (show i = 2 + kn by omega)
        have e1 : decide ((i : Int) < 2 + (kn : Int)) = false := decide_eq_false (by omega)
        obtain ⟨j0, j1, j2, j3, j4, j5, j6, j7, j8, j9, j10⟩ := row11 hl.out
        have one := Lib.hid (show (#[.string (str [206, 169]), .slice B1 i d1, .int .i64 (1 + (kt : Int)), .int .i64 (-20 * (1 + (kt : Int))), .int .i64 (100 * (1 + (kt : Int))), .int .i64 ((1 + (kt : Int)) * (5 + (kw : Int))), .int .i64 (1 + (kr : Int)), .int .i64 (ko : Int), .int .i64 (1 + (kl : Int)), .int .i64 (kp : Int), .slice B2 i d2] : Array Value).all (·.oneCell') = true from by simp [Value.oneCell'])
        go_wp2_with (refine wpList_store_row rfl 25 (.tmp 2) (.tmp 65) rfl (pb + 1) #[.string (str [206, 169]), .slice B1 i d1, .int .i64 (1 + (kt : Int)), .int .i64 (-20 * (1 + (kt : Int))), .int .i64 (100 * (1 + (kt : Int))), .int .i64 ((1 + (kt : Int)) * (5 + (kw : Int))), .int .i64 (1 + (kr : Int)), .int .i64 (ko : Int), .int .i64 (1 + (kl : Int)), .int .i64 (kp : Int), .slice B2 i d2] rfl rfl 25 #[.string (str []), .slice none 0 0, .int .i64 0, .int .i64 0, .int .i64 0, .int .i64 0, .int .i64 0, .int .i64 0, .int .i64 0, .int .i64 0, .slice none 0 0] hq.out rfl rfl one.out ?_)
        (try simp only [Exit.inBlock, Exit.then])
        refine bodyPost_ret (results_cell_row rfl _ _ (pb + 1) 25 _ (0, 0) _ rfl (setRow_heap wr (pb + 1) _ _ _ _ hq.out) rfl rfl rfl) rfl ?_
        have hi2 := hieq.out
        have R1 := R1.out
        have R2 := R2.out
        have apart : ∀ (A : Option Addr) (n c : Nat) (t : TypeId) (xs : List Value), wr.ownsRow (pb + 3) t 1 (.slice A n c) n xs → ∀ b off, A = some ⟨b, off, none⟩ → b ≠ pb + 1 := fun A n c t xs h b off e => by
          subst e
          have := (World.ownsRow.lt h b rfl).1
          omega
        have cp1 := own_cap R1
        have cp2 := own_cap R2
        have nm1 := nums_setRow (g := pb + 1) (cs := #[.string (str [206, 169]), .slice B1 i d1, .int .i64 (1 + (kt : Int)), .int .i64 (-20 * (1 + (kt : Int))), .int .i64 (100 * (1 + (kt : Int))), .int .i64 ((1 + (kt : Int)) * (5 + (kw : Int))), .int .i64 (1 + (kr : Int)), .int .i64 (ko : Int), .int .i64 (1 + (kl : Int)), .int .i64 (kp : Int), .slice B2 i d2]) (nums_own (N := fun j => 10 * (j : Int) + 3) R1 (fun j hj => ⟨by omega, by omega⟩)) (apart _ _ _ _ _ R1)
        have nm2 := nums_setRow (g := pb + 1) (cs := #[.string (str [206, 169]), .slice B1 i d1, .int .i64 (1 + (kt : Int)), .int .i64 (-20 * (1 + (kt : Int))), .int .i64 (100 * (1 + (kt : Int))), .int .i64 ((1 + (kt : Int)) * (5 + (kw : Int))), .int .i64 (1 + (kr : Int)), .int .i64 (ko : Int), .int .i64 (1 + (kl : Int)), .int .i64 (kp : Int), .slice B2 i d2]) (nums_own (N := fun j => (1 + (kt : Int)) * (10 + (j : Int))) R2 (fun j hj => by
          have y1 : 0 ≤ (1 + (kt : Int)) * (10 + (j : Int)) := Int.mul_nonneg (by omega) (by omega)
          have y2 : (1 + (kt : Int)) * (10 + (j : Int)) ≤ 10 * 15 := Int.mul_le_mul (by omega) (by omega) (by omega) (by omega)
          exact ⟨by omega, by omega⟩)) (apart _ _ _ _ _ R2)
        subst hi2
        exact ⟨B1, d1, B2, d2, rfl, ⟨nm1, nm2, by show [206, 169].length ≤ _; simp, cp1.1, cp1.2, cp2.1, cp2.2, ⟨by show _ ≤ 1 + (kt : Int); omega, by show 1 + (kt : Int) ≤ _; omega⟩, ⟨by show _ ≤ -20 * (1 + (kt : Int)); omega, by show -20 * (1 + (kt : Int)) ≤ _; omega⟩, ⟨by show _ ≤ 100 * (1 + (kt : Int)); omega, by show 100 * (1 + (kt : Int)) ≤ _; omega⟩, ⟨x4, x3⟩, ⟨by show _ ≤ 1 + (kr : Int); omega, by show 1 + (kr : Int) ≤ _; omega⟩, ⟨by show _ ≤ (ko : Int); omega, by show (ko : Int) ≤ _; omega⟩, ⟨by show _ ≤ 1 + (kl : Int); omega, by show 1 + (kl : Int) ≤ _; omega⟩, ⟨by show _ ≤ (kp : Int); omega, by show (kp : Int) ≤ _; omega⟩⟩, below_setRow HB.out (show w.heap.size ≤ pb + 1 by omega) _⟩
end Go.Proofs.Ytpfgmebajefjaaa
