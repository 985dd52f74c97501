/-
  Contract: turned, of the law's package.
-/
import Derived.Test.YtbigmbpclikenaaKeepProduct
namespace Go.Proofs.Ytbigmbpclikenaa
open Go.RowKit
set_option linter.unusedVariables false
set_option linter.unusedSimpArgs false

theorem push2 {w0 wr w1 : World} {B base lb rb : Nat} {t e1 e2 : TypeId} {cs zs : Array Value} {v1 v2 : Value} {n2 m : Nat} {x2 x1' : List Value} {g cap : Nat} (f : Nat)
    (hb : wr.heap[lb]? = some (.cells cs t (0, 0))) (hz : wr.heap[rb]? = some (.cells zs t (0, 0))) (HB : Below B w0 wr) (hBl : B ≤ lb) (hlb : lb < base) (hrb : rb < base) (hrl : rb ≠ lb) (hsz : base ≤ wr.heap.size)
    (own1 : ∀ k, v1.ownBlock = some k → base ≤ k) (R2 : wr.ownsRow base e2 1 v2 n2 x2) (hs : ∀ k, v1.ownBlock = some k → v2.ownBlock ≠ some k)
    (h1 : w1.ownsRow base e1 1 (.slice (some ⟨g, 0, none⟩) m cap) m x1') (hg : wr.grownBy w1 v1.ownBlock) (hat : v1.ownBlock = some g ∨ g = wr.heap.size) :
    (w1.cell? ⟨lb, f, none⟩ = cs[f]? ∧ w1.frozen? ⟨lb, f, none⟩ = false) ∧
    ((w1.setCell ⟨lb, f, none⟩ (.slice (some ⟨g, 0, none⟩) m cap)).heap[lb]? = some (.cells (cs.setIfInBounds f (.slice (some ⟨g, 0, none⟩) m cap)) t (0, 0))) ∧
    ((w1.setCell ⟨lb, f, none⟩ (.slice (some ⟨g, 0, none⟩) m cap)).heap[rb]? = some (.cells zs t (0, 0))) ∧
    Below B w0 (w1.setCell ⟨lb, f, none⟩ (.slice (some ⟨g, 0, none⟩) m cap)) ∧
    (w1.setCell ⟨lb, f, none⟩ (.slice (some ⟨g, 0, none⟩) m cap)).ownsRow base e1 1 (.slice (some ⟨g, 0, none⟩) m cap) m x1' ∧
    (w1.setCell ⟨lb, f, none⟩ (.slice (some ⟨g, 0, none⟩) m cap)).ownsRow base e2 1 v2 n2 x2 ∧
    v2.ownBlock ≠ some g ∧ base ≤ (w1.setCell ⟨lb, f, none⟩ (.slice (some ⟨g, 0, none⟩) m cap)).heap.size := by
  have keep : ∀ k, k < base → w1.heap[k]? = wr.heap[k]? := fun k hk => hg.block k (by omega) (fun e => by have := own1 k e.symm; omega)
  have hb1 := (keep lb hlb).trans hb
  have hz1 := (keep rb hrb).trans hz
  have HB1 : Below B w0 w1 := HB.grown hg (by omega) (fun k hk => by have := own1 k hk; omega)
  have hsz1 : base ≤ w1.heap.size := by have := hg.size; omega
  have hne : v2.ownBlock ≠ some g := by
    rcases hat with e | e
    · exact hs g e
    · intro e2
      have := (World.ownsRow.lt R2 g e2).2
      omega
  have R21 : w1.ownsRow base e2 1 v2 n2 x2 := R2.kept hg (by
    cases hv : v1.ownBlock with
    | none =>
      cases hv2 : v2.ownBlock with
      | none => exact .inl rfl
      | some k => exact .inr (fun e => by cases e)
    | some k => exact .inr (hs k hv))
  refine ⟨⟨cell_of_row w1 lb f _ t _ hb1, frozen_of_row w1 lb f _ t hb1⟩, heap_setCell_same w1 lb f _ t _ hb1, ?_, HB1.setCell (show B ≤ lb from hBl) _, ownsRow_setCell_below h1 (show lb < base from hlb) _, ownsRow_setCell_below R21 (show lb < base from hlb) _, hne, ?_⟩
  · rw [heap_setCell_other _ _ _ _ (show rb ≠ lb from hrl)]; exact hz1
  · rw [show (w1.setCell ⟨lb, f, none⟩ (.slice (some ⟨g, 0, none⟩) m cap)).heap.size = w1.heap.size from by simp [World.setCell]]; exact hsz1
theorem nums_news {w : World} {ad : Addr} {n : Nat} {N : Nat → Int} (h : Nums w (some ad) n N) : ∀ j u, ((List.range n).map (fun j => Value.int .i64 (N j)))[j]? = some u → w.cell? (ad.add j) = some u := by
  intro j u hj
  rw [List.getElem?_map] at hj
  obtain ⟨k, hk, rfl⟩ := Option.map_eq_some_iff.1 hj
  have hjn : j < n := by
    rcases Nat.lt_or_ge j n with h | h
    · exact h
    · rw [List.getElem?_eq_none (by simpa using h)] at hk; cases hk
  rw [List.getElem?_range hjn] at hk
  injection hk with hk
  subst hk
  obtain ⟨b, off, e, hc, _⟩ := h j hjn
  injection e with e
  subst e
  rw [WideShapes.add_plain]
  exact hc
theorem nums_one {w : World} {A : Option Addr} {n : Nat} {N : Nat → Int} (h : ∀ j, j < n → I64 (N j)) : ∀ u ∈ (List.range n).map (fun j => Value.int .i64 (N j)), u.oneCell' = true := by
  intro u hu
  obtain ⟨_, _, rfl⟩ := List.mem_map.1 hu
  rfl
theorem nums_I64 {w : World} {A : Option Addr} {n : Nat} {N : Nat → Int} (h : Nums w A n N) : ∀ j, j < n → I64 (N j) := fun j hj => by
  obtain ⟨_, _, _, _, h⟩ := h j hj
  exact h
theorem nums_setCell {w : World} {a : Addr} {v : Value} {n : Nat} {A : Option Addr} {N : Nat → Int} (h : Nums w A n N) (hne : ∀ b off, A = some ⟨b, off, none⟩ → b ≠ a.block) : Nums (w.setCell a v) A n N := by
  intro j hj
  obtain ⟨b, off, e, h1, h2⟩ := h j hj
  refine ⟨b, off, e, ?_, h2⟩
  rw [← h1]
  exact World.cell?_of_block (heap_setCell_other w a b v (hne b off e))
theorem nums_put {w : World} {g n k : Nat} {x : Int} {N : Nat → Int} (h : Nums w (some ⟨g, 0, none⟩) n N) (hk : k < n) (hx : I64 x) : Nums (w.setCell ⟨g, k, none⟩ (.int .i64 x)) (some ⟨g, 0, none⟩) n (fun j => if j = k then x else N j) := by
  intro j hj
  obtain ⟨b, off, e, h1, h2⟩ := h j hj
  injection e with e
  injection e with e1 e2
  subst e1; subst e2
  rw [Nat.zero_add] at h1
  by_cases c : j = k
  · subst c
    refine ⟨g, 0, rfl, ?_, ?_⟩
    · show (w.setCell ⟨g, j, none⟩ (.int .i64 x)).cell? ⟨g, 0 + j, none⟩ = some (.int .i64 (if j = j then x else N j))
      rw [Nat.zero_add, if_pos rfl]
      exact World.cell?_setCell_same' w ⟨g, j, none⟩ (.int .i64 x) (by rw [h1]; rfl)
    · show -9223372036854775808 ≤ (if j = j then x else N j) ∧ (if j = j then x else N j) ≤ 9223372036854775807
      rw [if_pos rfl]; exact hx
  · refine ⟨g, 0, rfl, ?_, ?_⟩
    · show (w.setCell ⟨g, k, none⟩ (.int .i64 x)).cell? ⟨g, 0 + j, none⟩ = some (.int .i64 (if j = k then x else N j))
      rw [Nat.zero_add, if_neg c, World.cell?_setCell_other w ⟨g, k, none⟩ ⟨g, j, none⟩ (.int .i64 x) (by intro e; injection e with _ e; exact c e.symm)]
      exact h1
    · show -9223372036854775808 ≤ (if j = k then x else N j) ∧ (if j = k then x else N j) ≤ 9223372036854775807
      rw [if_neg c]; exact h2
theorem nums_tail {w : World} {g n : Nat} {N : Nat → Int} (h : Nums w (some ⟨g, 0, none⟩) (n + 1) N) : Nums w (some ⟨g, 1, none⟩) n (fun j => N (j + 1)) := by
  intro j hj
  obtain ⟨b, off, e, h1, h2⟩ := h (j + 1) (by omega)
  injection e with e
  injection e with e1 e2
  subst e1; subst e2
  exact ⟨g, 1, rfl, by rw [← h1, Nat.zero_add, Nat.add_comm 1 j], h2⟩
theorem nums_less {w : World} {A : Option Addr} {n m : Nat} {N : Nat → Int} (h : Nums w A n N) (hm : m ≤ n) : Nums w A m N := fun j hj => h j (by omega)
theorem list_snoc (N : Nat → Int) (n : Nat) (x : Int) : (List.range n).map (fun j => Value.int .i64 (N j)) ++ [.int .i64 x] = (List.range (n + 1)).map (fun j => Value.int .i64 (if j < n then N j else x)) := by
  rw [List.range_succ, List.map_append]
  congr 1
  · refine List.map_congr_left fun j hj => ?_
    rw [if_pos (List.mem_range.1 hj)]
  · rw [List.map_singleton, if_neg (by omega)]
theorem nums_none {w : World} {A : Option Addr} {N : Nat → Int} : Nums w A 0 N := fun j hj => absurd hj (by omega)
set_option maxRecDepth 100000 in
set_option maxHeartbeats 1600000 in
theorem Turned_at (p : PD) (how n : Int) (w : World) (h : Hid (p.Ok w)) (hh : I64 how) (hn : I64 n) (b1 : 1 ≤ p.n1) (b2 : 1 ≤ p.n2) (b3 : p.n1 ≤ 1000000) (b4 : p.n2 ≤ 1000000) :
    Calls Try.prog 11 #[p.val, .int .i64 how, .int .i64 n] w fun e w' => ∃ p' : PD, e = .returned p'.val ∧ p'.Ok w' ∧ Below w.heap.size w w' ∧ (∀ b off, p'.A1 = some ⟨b, off, none⟩ → w.heap.size ≤ b) ∧ (∀ b off, p'.A2 = some ⟨b, off, none⟩ → w.heap.size ≤ b) := by
  obtain ⟨i0, hi0, hz0, hz1, hz2⟩ := info_parts info_i
  obtain ⟨i1, hi1, hy0, hy1, hy2⟩ := info_parts info_l
  obtain ⟨hh1, hh2⟩ := hh
  obtain ⟨hn1, hn2⟩ := hn
  have l1 := h.out.l1
  have m1 := h.out.m1
  have l2 := h.out.l2
  have m2 := h.out.m2
  have hco := h.out.code
  obtain ⟨ti1, ti2⟩ := h.out.tick
  obtain ⟨lo1, lo2⟩ := h.out.low
  obtain ⟨hg1, hg2⟩ := h.out.high
  obtain ⟨wi1, wi2⟩ := h.out.wide
  obtain ⟨ru1, ru2⟩ := h.out.rule
  obtain ⟨to1, to2⟩ := h.out.top
  obtain ⟨le1, le2⟩ := h.out.least
  obtain ⟨pa1, pa2⟩ := h.out.part
  have HO1 : Hid (∀ W, Below w.heap.size w W → Nums W p.A1 p.n1 p.Q) := Lib.hid (fun W b => h.out.months.below b)
  have HO2 : Hid (∀ W, Below w.heap.size w W → Nums W p.A2 p.n2 p.R) := Lib.hid (fun W b => h.out.settle.below b)
  clear h
  obtain ⟨code, A1, n1, c1, tick, low, high, wide, rule, top, least, part, A2, n2, c2, Q, R⟩ := p
  simp only at l1 m1 l2 m2 hco ti1 ti2 lo1 lo2 hg1 hg2 wi1 wi2 ru1 ru2 to1 to2 le1 le2 pa1 pa2 HO1 HO2 b1 b2 b3 b4
  show Calls Try.prog 11 #[.agg #[.string (str code), .slice A1 n1 c1, .int .i64 tick, .int .i64 low, .int .i64 high, .int .i64 wide, .int .i64 rule, .int .i64 top, .int .i64 least, .int .i64 part, .slice A2 n2 c2], .int .i64 how, .int .i64 n] w _
  obtain ⟨W0, eW0⟩ : ∃ W0, w.alloc (.cells #[.string (str code), .slice A1 n1 c1, .int .i64 tick, .int .i64 low, .int .i64 high, .int .i64 wide, .int .i64 rule, .int .i64 top, .int .i64 least, .int .i64 part, .slice A2 n2 c2] 25) = W0 := ⟨_, rfl⟩
  obtain ⟨pb, epb⟩ : ∃ pb, w.heap.size = pb := ⟨_, rfl⟩
  have hblk0 : W0.heap[pb]? = some (.cells #[.string (str code), .slice A1 n1 c1, .int .i64 tick, .int .i64 low, .int .i64 high, .int .i64 wide, .int .i64 rule, .int .i64 top, .int .i64 least, .int .i64 part, .slice A2 n2 c2] 25 (0, 0)) := by
    rw [← eW0, ← epb]; exact heap_alloc_new w _
  have hB0 : Below w.heap.size w W0 := by rw [← eW0]; exact (Below.refl _ w).alloc (Nat.le_refl _) _
  have hpb0 : pb < W0.heap.size := (Array.getElem?_eq_some_iff.1 hblk0).1
  have kk : ∀ W : World, W.heap[pb]? = some (.cells #[.string (str code), .slice A1 n1 c1, .int .i64 tick, .int .i64 low, .int .i64 high, .int .i64 wide, .int .i64 rule, .int .i64 top, .int .i64 least, .int .i64 part, .slice A2 n2 c2] 25 (0, 0)) → W.cell? ⟨pb, 0, none⟩ = some (.string (str code)) ∧ W.cell? ⟨pb, 1, none⟩ = some (.slice A1 n1 c1) ∧ W.cell? ⟨pb, 2, none⟩ = some (.int .i64 tick) ∧ W.cell? ⟨pb, 3, none⟩ = some (.int .i64 low) ∧ W.cell? ⟨pb, 4, none⟩ = some (.int .i64 high) ∧ W.cell? ⟨pb, 5, none⟩ = some (.int .i64 wide) ∧ W.cell? ⟨pb, 6, none⟩ = some (.int .i64 rule) ∧ W.cell? ⟨pb, 7, none⟩ = some (.int .i64 top) ∧ W.cell? ⟨pb, 8, none⟩ = some (.int .i64 least) ∧ W.cell? ⟨pb, 9, none⟩ = some (.int .i64 part) ∧ W.cell? ⟨pb, 10, none⟩ = some (.slice A2 n2 c2) := by
    intro W hb
    refine ⟨?_, ?_, ?_, ?_, ?_, ?_, ?_, ?_, ?_, ?_, ?_⟩ <;> (rw [Lib.cell_of_heap hb]; rfl)
  replace kk := Lib.hid kk
  replace eW0 := Lib.hid eW0
  replace epb := Lib.hid epb
  have a0 : (w.alloc (.cells #[.string (str code), .slice A1 n1 c1, .int .i64 tick, .int .i64 low, .int .i64 high, .int .i64 wide, .int .i64 rule, .int .i64 top, .int .i64 least, .int .i64 part, .slice A2 n2 c2] 25)).cell? ⟨w.heap.size, 0, none⟩ = some (.string (str code)) := by
    rw [eW0.out, epb.out]; exact (kk.out W0 hblk0).1
  have a1 : (w.alloc (.cells #[.string (str code), .slice A1 n1 c1, .int .i64 tick, .int .i64 low, .int .i64 high, .int .i64 wide, .int .i64 rule, .int .i64 top, .int .i64 least, .int .i64 part, .slice A2 n2 c2] 25)).cell? ⟨w.heap.size, 1, none⟩ = some (.slice A1 n1 c1) := by
    rw [eW0.out, epb.out]; exact (kk.out W0 hblk0).2.1
  have a2 : (w.alloc (.cells #[.string (str code), .slice A1 n1 c1, .int .i64 tick, .int .i64 low, .int .i64 high, .int .i64 wide, .int .i64 rule, .int .i64 top, .int .i64 least, .int .i64 part, .slice A2 n2 c2] 25)).cell? ⟨w.heap.size, 2, none⟩ = some (.int .i64 tick) := by
    rw [eW0.out, epb.out]; exact (kk.out W0 hblk0).2.2.1
  have a3 : (w.alloc (.cells #[.string (str code), .slice A1 n1 c1, .int .i64 tick, .int .i64 low, .int .i64 high, .int .i64 wide, .int .i64 rule, .int .i64 top, .int .i64 least, .int .i64 part, .slice A2 n2 c2] 25)).cell? ⟨w.heap.size, 3, none⟩ = some (.int .i64 low) := by
    rw [eW0.out, epb.out]; exact (kk.out W0 hblk0).2.2.2.1
  have a4 : (w.alloc (.cells #[.string (str code), .slice A1 n1 c1, .int .i64 tick, .int .i64 low, .int .i64 high, .int .i64 wide, .int .i64 rule, .int .i64 top, .int .i64 least, .int .i64 part, .slice A2 n2 c2] 25)).cell? ⟨w.heap.size, 4, none⟩ = some (.int .i64 high) := by
    rw [eW0.out, epb.out]; exact (kk.out W0 hblk0).2.2.2.2.1
  have a5 : (w.alloc (.cells #[.string (str code), .slice A1 n1 c1, .int .i64 tick, .int .i64 low, .int .i64 high, .int .i64 wide, .int .i64 rule, .int .i64 top, .int .i64 least, .int .i64 part, .slice A2 n2 c2] 25)).cell? ⟨w.heap.size, 5, none⟩ = some (.int .i64 wide) := by
    rw [eW0.out, epb.out]; exact (kk.out W0 hblk0).2.2.2.2.2.1
  have a6 : (w.alloc (.cells #[.string (str code), .slice A1 n1 c1, .int .i64 tick, .int .i64 low, .int .i64 high, .int .i64 wide, .int .i64 rule, .int .i64 top, .int .i64 least, .int .i64 part, .slice A2 n2 c2] 25)).cell? ⟨w.heap.size, 6, none⟩ = some (.int .i64 rule) := by
    rw [eW0.out, epb.out]; exact (kk.out W0 hblk0).2.2.2.2.2.2.1
  have a7 : (w.alloc (.cells #[.string (str code), .slice A1 n1 c1, .int .i64 tick, .int .i64 low, .int .i64 high, .int .i64 wide, .int .i64 rule, .int .i64 top, .int .i64 least, .int .i64 part, .slice A2 n2 c2] 25)).cell? ⟨w.heap.size, 7, none⟩ = some (.int .i64 top) := by
    rw [eW0.out, epb.out]; exact (kk.out W0 hblk0).2.2.2.2.2.2.2.1
  have a8 : (w.alloc (.cells #[.string (str code), .slice A1 n1 c1, .int .i64 tick, .int .i64 low, .int .i64 high, .int .i64 wide, .int .i64 rule, .int .i64 top, .int .i64 least, .int .i64 part, .slice A2 n2 c2] 25)).cell? ⟨w.heap.size, 8, none⟩ = some (.int .i64 least) := by
    rw [eW0.out, epb.out]; exact (kk.out W0 hblk0).2.2.2.2.2.2.2.2.1
  have a9 : (w.alloc (.cells #[.string (str code), .slice A1 n1 c1, .int .i64 tick, .int .i64 low, .int .i64 high, .int .i64 wide, .int .i64 rule, .int .i64 top, .int .i64 least, .int .i64 part, .slice A2 n2 c2] 25)).cell? ⟨w.heap.size, 9, none⟩ = some (.int .i64 part) := by
    rw [eW0.out, epb.out]; exact (kk.out W0 hblk0).2.2.2.2.2.2.2.2.2.1
  have a10 : (w.alloc (.cells #[.string (str code), .slice A1 n1 c1, .int .i64 tick, .int .i64 low, .int .i64 high, .int .i64 wide, .int .i64 rule, .int .i64 top, .int .i64 least, .int .i64 part, .slice A2 n2 c2] 25)).cell? ⟨w.heap.size, 10, none⟩ = some (.slice A2 n2 c2) := by
    rw [eW0.out, epb.out]; exact (kk.out W0 hblk0).2.2.2.2.2.2.2.2.2.2
  go_enter Try.func11, Try.ntmps11
  go_upto_region 1 with (fail)
  have hs0 : W0.heap.size = pb + 1 := by rw [← eW0.out, World.size_alloc, epb.out]
  rw [eW0.out]
  rw [epb.out]
  clear a0 a1 a2 a3 a4 a5 a6 a7 a8 a9 a10 eW0
  obtain ⟨k0, k1, k2, k3, k4, k5, k6, k7, k8, k9, k10⟩ := kk.out W0 hblk0
  obtain ⟨W1, eW1⟩ : ∃ W, W0.alloc (.cells #[.string (str []), .slice none 0 0, .int .i64 0, .int .i64 0, .int .i64 0, .int .i64 0, .int .i64 0, .int .i64 0, .int .i64 0, .int .i64 0, .slice none 0 0] 25) = W := ⟨_, rfl⟩
  rw [show (.string { data := #[] } : Value) = .string (str []) from rfl] at *
  rw [eW1]
  have hq1 : W1.heap[pb + 1]? = some (.cells #[.string (str []), .slice none 0 0, .int .i64 0, .int .i64 0, .int .i64 0, .int .i64 0, .int .i64 0, .int .i64 0, .int .i64 0, .int .i64 0, .slice none 0 0] 25 (0, 0)) := by rw [← eW1, ← hs0]; exact heap_alloc_new W0 _
  have hblk1 : W1.heap[pb]? = some (.cells #[.string (str code), .slice A1 n1 c1, .int .i64 tick, .int .i64 low, .int .i64 high, .int .i64 wide, .int .i64 rule, .int .i64 top, .int .i64 least, .int .i64 part, .slice A2 n2 c2] 25 (0, 0)) := by rw [← eW1]; exact (heap_alloc_old _ _ hpb0).trans hblk0
  have hB1 : Below w.heap.size w W1 := by rw [← eW1]; exact hB0.alloc hB0.size _
  have hpl : w.heap.size ≤ pb := by rw [epb.out]; exact Nat.le_refl _
  have hs1 : W1.heap.size = pb + 2 := by rw [← eW1, World.size_alloc, hs0]
  clear eW1 k0 k1 k2 k3 k4 k5 k6 k7 k8 k9 k10 hblk0 hpb0 hB0
  obtain ⟨k0, k1, k2, k3, k4, k5, k6, k7, k8, k9, k10⟩ := kk.out W1 hblk1
  have NA := HO1.out (W1.alloc (.cells #[] 3)) (hB1.alloc hB1.size _)
  obtain ⟨ab, ao, rfl, -, -⟩ := NA 0 (by omega)
  go_wp2_with (at_builtin; refine wpList_append_lies _ rfl (.tmp 7) (.tmp 9) 22 rfl (pb + 2) 3 i0 (.int .i64 0) 1 8 Try.underlying22 hi0 hz0 hz1 hz2 rfl (by decide) (.slice (some ⟨pb + 2, 0, none⟩) 0 0) 0 [] rfl (by rw [← hs1]; exact World.ownsRow_lit W1 #[] 0 (Nat.le_refl _) (by unfold maxLen; omega) rfl) ⟨ab, ao, none⟩ n1 c1 ((List.range n1).map (fun j => Value.int .i64 (Q j))) rfl (by simp) (nums_news NA) (nums_one (w := W1) (A := none) (nums_I64 NA)) (by omega) (by unfold maxLen; omega) (by omega) (by rw [World.size_alloc]; omega) _ rfl ?_)
  intro g1 d1 w4 hown4 hg4 hat4 hlt4
  have hsa : (W1.alloc (.cells #[] 3)).heap.size = pb + 3 := by rw [World.size_alloc, hs1]
  obtain ⟨⟨c4, f4⟩, hl4, hq4, HB4, R14, -, -, hsz4⟩ := push2 (e2 := 3) (v1 := .slice (some ⟨pb + 2, 0, none⟩) 0 0) (v2 := .slice none 0 0) (n2 := 0) (x2 := []) 1 ((heap_alloc_old _ _ (by omega)).trans hblk1) ((heap_alloc_old _ _ (by omega)).trans hq1) (hB1.alloc hB1.size _) hpl (show pb < pb + 2 by omega) (show pb + 1 < pb + 2 by omega) (by omega) (by rw [hsa]; omega) (fun k hk => by injection hk with hk; have hk2 : pb + 2 = k := hk; omega) (World.ownsRow_nil _ _ _ _) (fun k _ e => by cases e) hown4 hg4 (hat4.imp id (fun e => by rw [hsa]; omega))
  have c5 : w4.cell? ⟨pb, 1, none⟩ = some (.slice (some ⟨ab, ao, none⟩) n1 c1) := c4
  clear k0 k1 k2 k3 k4 k5 k6 k7 k8 k9 k10 c4 hown4 hg4 hat4 hlt4 NA hq1 hblk1 hB1 hs1 hsa
  (try simp only [Nat.zero_add, List.nil_append] at hl4 hq4 HB4 R14 hsz4)
  go_upto_region 2 with (fail)
  clear c5 f4
  obtain ⟨W5, eW5⟩ : ∃ W, w4.setCell ⟨pb, 1, none⟩ (.slice (some ⟨g1, 0, none⟩) n1 d1) = W := ⟨_, rfl⟩
  rw [eW5] at hl4 hq4 HB4 R14 hsz4 ⊢
  clear eW5
  replace hl4 : W5.heap[pb]? = some (.cells #[.string (str code), .slice (some ⟨g1, 0, none⟩) n1 d1, .int .i64 tick, .int .i64 low, .int .i64 high, .int .i64 wide, .int .i64 rule, .int .i64 top, .int .i64 least, .int .i64 part, .slice A2 n2 c2] 25 (0, 0)) := hl4
  obtain ⟨k0, k1, k2, k3, k4, k5, k6, k7, k8, k9, k10⟩ := row11 hl4
  have NB := HO2.out (W5.alloc (.cells #[] 2)) (HB4.alloc HB4.size _)
  obtain ⟨sb, so, rfl, -, -⟩ := NB 0 (by omega)
  have hka : ∀ i : Nat, (W5.alloc (.cells #[] 2)).cell? ⟨pb, i, none⟩ = W5.cell? ⟨pb, i, none⟩ := fun i => World.cell?_of_block (heap_alloc_old W5 _ (show pb < W5.heap.size by omega))
  have ka := (hka 10).trans k10
  clear hka
  go_wp2_with (at_builtin; refine wpList_append_lies _ rfl (.tmp 12) (.tmp 14) 23 rfl (pb + 2) 2 i1 (.int .i64 0) 1 8 Try.underlying23 hi1 hy0 hy1 hy2 rfl (by decide) (.slice (some ⟨W5.heap.size, 0, none⟩) 0 0) 0 [] rfl (World.ownsRow_lit W5 #[] 0 hsz4 (by unfold maxLen; omega) rfl) ⟨sb, so, none⟩ n2 c2 ((List.range n2).map (fun j => Value.int .i64 (R j))) rfl (by simp) (nums_news NB) (nums_one (w := W5) (A := none) (nums_I64 NB)) (by omega) (by unfold maxLen; omega) (by omega) (by rw [World.size_alloc]; omega) _ rfl ?_)
  intro g2 d2 w6 hown6 hg6 hat6 hlt6
  obtain ⟨⟨c6, f6⟩, hl6, hq6, HB6, R26, R16, hne6, hsz6⟩ := push2 (v1 := .slice (some ⟨W5.heap.size, 0, none⟩) 0 0) 10 ((heap_alloc_old _ _ (by omega)).trans hl4) ((heap_alloc_old _ _ (by omega)).trans hq4) (HB4.alloc HB4.size _) hpl (show pb < pb + 2 by omega) (show pb + 1 < pb + 2 by omega) (by omega) (by rw [World.size_alloc]; omega) (fun k hk => by have hk2 : some W5.heap.size = some k := hk; injection hk2 with hk2; omega) (R14.alloc _) (fun k hk e => by
    have hk2 : some W5.heap.size = some k := hk
    have e2 : some g1 = some k := e
    have := (World.ownsRow.lt R14 g1 rfl).2
    injection hk2 with hk2
    injection e2 with e2
    omega) hown6 hg6 (hat6.imp id (fun e => by rw [World.size_alloc]; omega))
  have c7 : w6.cell? ⟨pb, 10, none⟩ = some (.slice (some ⟨sb, so, none⟩) n2 c2) := c6
  clear k0 k1 k2 k3 k4 k5 k6 k7 k8 k9 k10 ka c6 hown6 hg6 hat6 hlt6 NB hl4 hq4 HB4 R14 hsz4
  (try simp only [Nat.zero_add, List.nil_append] at hl6 hq6 HB6 R16 R26 hsz6)
  go_upto_region 3 with (fail)
  clear c7 f6
  obtain ⟨W7, eW7⟩ : ∃ W, w6.setCell ⟨pb, 10, none⟩ (.slice (some ⟨g2, 0, none⟩) n2 d2) = W := ⟨_, rfl⟩
  rw [eW7] at hl6 hq6 HB6 R16 R26 hsz6 ⊢
  clear eW7
  replace hl6 : W7.heap[pb]? = some (.cells #[.string (str code), .slice (some ⟨g1, 0, none⟩) n1 d1, .int .i64 tick, .int .i64 low, .int .i64 high, .int .i64 wide, .int .i64 rule, .int .i64 top, .int .i64 least, .int .i64 part, .slice (some ⟨g2, 0, none⟩) n2 d2] 25 (0, 0)) := hl6
  have hng : g1 ≠ g2 := fun e => hne6 (by rw [e]; rfl)
  have lt1 := World.ownsRow.lt R16 g1 rfl
  have lt2 := World.ownsRow.lt R26 g2 rfl
  have cp1 := own_cap R16
  have cp2 := own_cap R26
  have NM := nums_own R16 (nums_I64 (HO1.out w (Below.refl _ w)))
  have NS := nums_own R26 (nums_I64 (HO2.out w (Below.refl _ w)))
  have C1 := fun j => World.ownsRow.frozenAt R16 j
  have C2 := fun j => World.ownsRow.frozenAt R26 j
  replace R16 := Lib.hid R16
  replace R26 := Lib.hid R26
  replace NM := Lib.hid NM
  replace NS := Lib.hid NS
  replace C1 := Lib.hid C1
  replace C2 := Lib.hid C2
  replace hl6 := Lib.hid hl6
  replace hq6 := Lib.hid hq6
  replace HB6 := Lib.hid HB6
  clear hne6 kk hsz6 HO1 HO2
  by_cases h0 : how = 0
  · have t0 : (how == 0) = true := by simp; exact h0
    clear h0
    obtain ⟨k0, k1, k2, k3, k4, k5, k6, k7, k8, k9, k10⟩ := row11 hl6.out
    obtain ⟨ks, ek⟩ : ∃ k, withinN n 3 = k := ⟨_, rfl⟩
    have hks := withinN_le n 3
    have HW : Hid (∀ W, Calls Try.prog 19 #[.int .i64 n, .int .i64 0, .int .i64 3] W fun e w' => e = .returned (.int .i64 ks) ∧ w' = W) := Lib.hid (fun W => by rw [← ek]; exact Within_any n 3 W (by omega) hn1 hn2)
    rw [ek] at hks
    clear ek
    obtain ⟨q, eq⟩ : ∃ q, W7.heap.size = q := ⟨_, rfl⟩
    go_wp2_with fail
    obtain ⟨WA, eWA⟩ : ∃ W, W7.alloc (.cells #[.string (str []), .string ⟨#[99, 108]⟩, .string ⟨#[65, 66, 67, 68, 69]⟩, .string ⟨#[206, 169]⟩] 9) = W := ⟨_, rfl⟩
    have hlA : WA.heap[pb]? = some (.cells #[.string (str code), .slice (some ⟨g1, 0, none⟩) n1 d1, .int .i64 tick, .int .i64 low, .int .i64 high, .int .i64 wide, .int .i64 rule, .int .i64 top, .int .i64 least, .int .i64 part, .slice (some ⟨g2, 0, none⟩) n2 d2] 25 (0, 0)) := by rw [← eWA]; exact (heap_alloc_old _ _ (by omega)).trans hl6.out
    have hqA : WA.heap[pb + 1]? = some (.cells #[.string (str []), .slice none 0 0, .int .i64 0, .int .i64 0, .int .i64 0, .int .i64 0, .int .i64 0, .int .i64 0, .int .i64 0, .int .i64 0, .slice none 0 0] 25 (0, 0)) := by rw [← eWA]; exact (heap_alloc_old _ _ (by omega)).trans hq6.out
    have HBA : Below w.heap.size w WA := by rw [← eWA]; exact HB6.out.alloc HB6.out.size _
    have N1A : Nums WA (some ⟨g1, 0, none⟩) n1 Q := by rw [← eWA]; exact NM.out.below ((Below.refl _ W7).alloc (Nat.le_refl _) _)
    have N2A : Nums WA (some ⟨g2, 0, none⟩) n2 R := by rw [← eWA]; exact NS.out.below ((Below.refl _ W7).alloc (Nat.le_refl _) _)
    have hxA : WA.heap[q]? = some (.cells #[.string (str []), .string ⟨#[99, 108]⟩, .string ⟨#[65, 66, 67, 68, 69]⟩, .string ⟨#[206, 169]⟩] 9 (0, 0)) := by rw [← eWA, ← eq]; exact heap_alloc_new W7 _
    rw [eWA]
    clear eWA k0 k1 k2 k3 k4 k5 k6 k7 k8 k9 k10 hl6 hq6 HB6 NM NS
    refine (HW.out _).mono ?_
    rintro e WA ⟨rfl, rfl⟩
    obtain ⟨k0, k1, k2, k3, k4, k5, k6, k7, k8, k9, k10⟩ := row11 hlA
    have z := frozen_of_row WA pb 0 _ _ hlA
    have qc := fun j => cell_of_row WA q j _ _ _ hxA
    have cs : ks = 0 ∨ ks = 1 ∨ ks = 2 ∨ ks = 3 := by omega
    rcases cs with rfl | rfl | rfl | rfl
    · have q0 : WA.cell? ⟨q, 0, none⟩ = some (.string (str [])) := qc 0
      clear qc
      have hl8 : (WA.setCell ⟨pb, 0, none⟩ (.string (str []))).heap[pb]? = some (.cells #[.string (str []), .slice (some ⟨g1, 0, none⟩) n1 d1, .int .i64 tick, .int .i64 low, .int .i64 high, .int .i64 wide, .int .i64 rule, .int .i64 top, .int .i64 least, .int .i64 part, .slice (some ⟨g2, 0, none⟩) n2 d2] 25 (0, 0)) := heap_setCell_same WA pb 0 _ _ (.string (str [])) hlA
      have hq8 := (heap_setCell_other WA ⟨pb, 0, none⟩ (pb + 1) (.string (str [])) (show pb + 1 ≠ pb by omega)).trans hqA
      have HB8 := HBA.setCell (p := ⟨pb, 0, none⟩) (show w.heap.size ≤ pb from hpl) (.string (str []))
      have N1 := Lib.hid (nums_setCell (a := ⟨pb, 0, none⟩) (v := (.string (str []))) N1A (by intro b off e; injection e with e; injection e with e; show b ≠ pb; omega))
      have N2 := Lib.hid (nums_setCell (a := ⟨pb, 0, none⟩) (v := (.string (str []))) N2A (by intro b off e; injection e with e; injection e with e; show b ≠ pb; omega))
      clear N1A N2A
      go_upto_region 32 with (fail)
      clear k0 k1 k2 k3 k4 k5 k6 k7 k8 k9 k10 z q0
      obtain ⟨W8, eW8⟩ : ∃ W, WA.setCell ⟨pb, 0, none⟩ (.string (str [])) = W := ⟨_, rfl⟩
      rw [eW8] at hl8 hq8 HB8 N1 N2 ⊢
      clear eW8
      obtain ⟨k0, k1, k2, k3, k4, k5, k6, k7, k8, k9, k10⟩ := row11 hl8
      have one := Lib.hid (show (#[.string (str []), .slice (some ⟨g1, 0, none⟩) n1 d1, .int .i64 tick, .int .i64 low, .int .i64 high, .int .i64 wide, .int .i64 rule, .int .i64 top, .int .i64 least, .int .i64 part, .slice (some ⟨g2, 0, none⟩) n2 d2] : Array Value).all (·.oneCell') = true from by simp [Value.oneCell'])
      have NX := nums_setRow (g := pb + 1) (cs := #[.string (str []), .slice (some ⟨g1, 0, none⟩) n1 d1, .int .i64 tick, .int .i64 low, .int .i64 high, .int .i64 wide, .int .i64 rule, .int .i64 top, .int .i64 least, .int .i64 part, .slice (some ⟨g2, 0, none⟩) n2 d2]) (N1.out) (by intro b off e; first | (cases e; done) | (injection e with e; injection e with e; omega))
      have NY := nums_setRow (g := pb + 1) (cs := #[.string (str []), .slice (some ⟨g1, 0, none⟩) n1 d1, .int .i64 tick, .int .i64 low, .int .i64 high, .int .i64 wide, .int .i64 rule, .int .i64 top, .int .i64 least, .int .i64 part, .slice (some ⟨g2, 0, none⟩) n2 d2]) (N2.out) (by intro b off e; first | (cases e; done) | (injection e with e; injection e with e; omega))
      replace NX := Lib.hid NX
      replace NY := Lib.hid NY
      have HQ := Lib.hid hq8
      go_wp2_with (refine wpList_store_row rfl 25 (.tmp 6) (.tmp 101) rfl (pb + 1) #[.string (str []), .slice (some ⟨g1, 0, none⟩) n1 d1, .int .i64 tick, .int .i64 low, .int .i64 high, .int .i64 wide, .int .i64 rule, .int .i64 top, .int .i64 least, .int .i64 part, .slice (some ⟨g2, 0, none⟩) n2 d2] rfl rfl 25 #[.string (str []), .slice none 0 0, .int .i64 0, .int .i64 0, .int .i64 0, .int .i64 0, .int .i64 0, .int .i64 0, .int .i64 0, .int .i64 0, .slice none 0 0] HQ.out rfl rfl one.out ?_)
      (try simp only [Exit.inBlock, Exit.then])
      refine bodyPost_ret (results_cell_row rfl _ _ (pb + 1) 25 _ (0, 0) _ rfl (setRow_heap W8 (pb + 1) _ _ _ _ HQ.out) rfl rfl rfl) rfl ?_
      exact ⟨⟨[], some ⟨g1, 0, none⟩, n1, d1, tick, low, high, wide, rule, top, least, part, some ⟨g2, 0, none⟩, n2, d2, Q, R⟩, rfl, ⟨NX.out, NY.out, (by show ([] : List UInt8).length ≤ _; simp), cp1.1, cp1.2, cp2.1, cp2.2, ⟨ti1, ti2⟩, ⟨lo1, lo2⟩, ⟨hg1, hg2⟩, ⟨wi1, wi2⟩, ⟨ru1, ru2⟩, ⟨to1, to2⟩, ⟨le1, le2⟩, ⟨pa1, pa2⟩⟩, below_setRow HB8 (show w.heap.size ≤ pb + 1 by omega) _, by intro b off e; first | (cases e; done) | (injection e with e; injection e with e; omega), by intro b off e; first | (cases e; done) | (injection e with e; injection e with e; omega)⟩
    · have q1 : WA.cell? ⟨q, 1, none⟩ = some (.string ⟨#[99, 108]⟩) := qc 1
      clear qc
      have hl8 : (WA.setCell ⟨pb, 0, none⟩ (.string ⟨#[99, 108]⟩)).heap[pb]? = some (.cells #[.string ⟨#[99, 108]⟩, .slice (some ⟨g1, 0, none⟩) n1 d1, .int .i64 tick, .int .i64 low, .int .i64 high, .int .i64 wide, .int .i64 rule, .int .i64 top, .int .i64 least, .int .i64 part, .slice (some ⟨g2, 0, none⟩) n2 d2] 25 (0, 0)) := heap_setCell_same WA pb 0 _ _ (.string ⟨#[99, 108]⟩) hlA
      have hq8 := (heap_setCell_other WA ⟨pb, 0, none⟩ (pb + 1) (.string ⟨#[99, 108]⟩) (show pb + 1 ≠ pb by omega)).trans hqA
      have HB8 := HBA.setCell (p := ⟨pb, 0, none⟩) (show w.heap.size ≤ pb from hpl) (.string ⟨#[99, 108]⟩)
      have N1 := Lib.hid (nums_setCell (a := ⟨pb, 0, none⟩) (v := (.string ⟨#[99, 108]⟩)) N1A (by intro b off e; injection e with e; injection e with e; show b ≠ pb; omega))
      have N2 := Lib.hid (nums_setCell (a := ⟨pb, 0, none⟩) (v := (.string ⟨#[99, 108]⟩)) N2A (by intro b off e; injection e with e; injection e with e; show b ≠ pb; omega))
      clear N1A N2A
      go_upto_region 32 with (fail)
      clear k0 k1 k2 k3 k4 k5 k6 k7 k8 k9 k10 z q1
      obtain ⟨W8, eW8⟩ : ∃ W, WA.setCell ⟨pb, 0, none⟩ (.string ⟨#[99, 108]⟩) = W := ⟨_, rfl⟩
      rw [eW8] at hl8 hq8 HB8 N1 N2 ⊢
      clear eW8
      obtain ⟨k0, k1, k2, k3, k4, k5, k6, k7, k8, k9, k10⟩ := row11 hl8
      have one := Lib.hid (show (#[.string ⟨#[99, 108]⟩, .slice (some ⟨g1, 0, none⟩) n1 d1, .int .i64 tick, .int .i64 low, .int .i64 high, .int .i64 wide, .int .i64 rule, .int .i64 top, .int .i64 least, .int .i64 part, .slice (some ⟨g2, 0, none⟩) n2 d2] : Array Value).all (·.oneCell') = true from by simp [Value.oneCell'])
      have NX := nums_setRow (g := pb + 1) (cs := #[.string ⟨#[99, 108]⟩, .slice (some ⟨g1, 0, none⟩) n1 d1, .int .i64 tick, .int .i64 low, .int .i64 high, .int .i64 wide, .int .i64 rule, .int .i64 top, .int .i64 least, .int .i64 part, .slice (some ⟨g2, 0, none⟩) n2 d2]) (N1.out) (by intro b off e; first | (cases e; done) | (injection e with e; injection e with e; omega))
      have NY := nums_setRow (g := pb + 1) (cs := #[.string ⟨#[99, 108]⟩, .slice (some ⟨g1, 0, none⟩) n1 d1, .int .i64 tick, .int .i64 low, .int .i64 high, .int .i64 wide, .int .i64 rule, .int .i64 top, .int .i64 least, .int .i64 part, .slice (some ⟨g2, 0, none⟩) n2 d2]) (N2.out) (by intro b off e; first | (cases e; done) | (injection e with e; injection e with e; omega))
      replace NX := Lib.hid NX
      replace NY := Lib.hid NY
      have HQ := Lib.hid hq8
      go_wp2_with (refine wpList_store_row rfl 25 (.tmp 6) (.tmp 101) rfl (pb + 1) #[.string ⟨#[99, 108]⟩, .slice (some ⟨g1, 0, none⟩) n1 d1, .int .i64 tick, .int .i64 low, .int .i64 high, .int .i64 wide, .int .i64 rule, .int .i64 top, .int .i64 least, .int .i64 part, .slice (some ⟨g2, 0, none⟩) n2 d2] rfl rfl 25 #[.string (str []), .slice none 0 0, .int .i64 0, .int .i64 0, .int .i64 0, .int .i64 0, .int .i64 0, .int .i64 0, .int .i64 0, .int .i64 0, .slice none 0 0] HQ.out rfl rfl one.out ?_)
      (try simp only [Exit.inBlock, Exit.then])
      refine bodyPost_ret (results_cell_row rfl _ _ (pb + 1) 25 _ (0, 0) _ rfl (setRow_heap W8 (pb + 1) _ _ _ _ HQ.out) rfl rfl rfl) rfl ?_
      exact ⟨⟨[99, 108], some ⟨g1, 0, none⟩, n1, d1, tick, low, high, wide, rule, top, least, part, some ⟨g2, 0, none⟩, n2, d2, Q, R⟩, rfl, ⟨NX.out, NY.out, (by show ([99, 108] : List UInt8).length ≤ _; simp), cp1.1, cp1.2, cp2.1, cp2.2, ⟨ti1, ti2⟩, ⟨lo1, lo2⟩, ⟨hg1, hg2⟩, ⟨wi1, wi2⟩, ⟨ru1, ru2⟩, ⟨to1, to2⟩, ⟨le1, le2⟩, ⟨pa1, pa2⟩⟩, below_setRow HB8 (show w.heap.size ≤ pb + 1 by omega) _, by intro b off e; first | (cases e; done) | (injection e with e; injection e with e; omega), by intro b off e; first | (cases e; done) | (injection e with e; injection e with e; omega)⟩
    · have q2 : WA.cell? ⟨q, 2, none⟩ = some (.string ⟨#[65, 66, 67, 68, 69]⟩) := qc 2
      clear qc
      have hl8 : (WA.setCell ⟨pb, 0, none⟩ (.string ⟨#[65, 66, 67, 68, 69]⟩)).heap[pb]? = some (.cells #[.string ⟨#[65, 66, 67, 68, 69]⟩, .slice (some ⟨g1, 0, none⟩) n1 d1, .int .i64 tick, .int .i64 low, .int .i64 high, .int .i64 wide, .int .i64 rule, .int .i64 top, .int .i64 least, .int .i64 part, .slice (some ⟨g2, 0, none⟩) n2 d2] 25 (0, 0)) := heap_setCell_same WA pb 0 _ _ (.string ⟨#[65, 66, 67, 68, 69]⟩) hlA
      have hq8 := (heap_setCell_other WA ⟨pb, 0, none⟩ (pb + 1) (.string ⟨#[65, 66, 67, 68, 69]⟩) (show pb + 1 ≠ pb by omega)).trans hqA
      have HB8 := HBA.setCell (p := ⟨pb, 0, none⟩) (show w.heap.size ≤ pb from hpl) (.string ⟨#[65, 66, 67, 68, 69]⟩)
      have N1 := Lib.hid (nums_setCell (a := ⟨pb, 0, none⟩) (v := (.string ⟨#[65, 66, 67, 68, 69]⟩)) N1A (by intro b off e; injection e with e; injection e with e; show b ≠ pb; omega))
      have N2 := Lib.hid (nums_setCell (a := ⟨pb, 0, none⟩) (v := (.string ⟨#[65, 66, 67, 68, 69]⟩)) N2A (by intro b off e; injection e with e; injection e with e; show b ≠ pb; omega))
      clear N1A N2A
      go_upto_region 32 with (fail)
      clear k0 k1 k2 k3 k4 k5 k6 k7 k8 k9 k10 z q2
      obtain ⟨W8, eW8⟩ : ∃ W, WA.setCell ⟨pb, 0, none⟩ (.string ⟨#[65, 66, 67, 68, 69]⟩) = W := ⟨_, rfl⟩
      rw [eW8] at hl8 hq8 HB8 N1 N2 ⊢
      clear eW8
      obtain ⟨k0, k1, k2, k3, k4, k5, k6, k7, k8, k9, k10⟩ := row11 hl8
      have one := Lib.hid (show (#[.string ⟨#[65, 66, 67, 68, 69]⟩, .slice (some ⟨g1, 0, none⟩) n1 d1, .int .i64 tick, .int .i64 low, .int .i64 high, .int .i64 wide, .int .i64 rule, .int .i64 top, .int .i64 least, .int .i64 part, .slice (some ⟨g2, 0, none⟩) n2 d2] : Array Value).all (·.oneCell') = true from by simp [Value.oneCell'])
      have NX := nums_setRow (g := pb + 1) (cs := #[.string ⟨#[65, 66, 67, 68, 69]⟩, .slice (some ⟨g1, 0, none⟩) n1 d1, .int .i64 tick, .int .i64 low, .int .i64 high, .int .i64 wide, .int .i64 rule, .int .i64 top, .int .i64 least, .int .i64 part, .slice (some ⟨g2, 0, none⟩) n2 d2]) (N1.out) (by intro b off e; first | (cases e; done) | (injection e with e; injection e with e; omega))
      have NY := nums_setRow (g := pb + 1) (cs := #[.string ⟨#[65, 66, 67, 68, 69]⟩, .slice (some ⟨g1, 0, none⟩) n1 d1, .int .i64 tick, .int .i64 low, .int .i64 high, .int .i64 wide, .int .i64 rule, .int .i64 top, .int .i64 least, .int .i64 part, .slice (some ⟨g2, 0, none⟩) n2 d2]) (N2.out) (by intro b off e; first | (cases e; done) | (injection e with e; injection e with e; omega))
      replace NX := Lib.hid NX
      replace NY := Lib.hid NY
      have HQ := Lib.hid hq8
      go_wp2_with (refine wpList_store_row rfl 25 (.tmp 6) (.tmp 101) rfl (pb + 1) #[.string ⟨#[65, 66, 67, 68, 69]⟩, .slice (some ⟨g1, 0, none⟩) n1 d1, .int .i64 tick, .int .i64 low, .int .i64 high, .int .i64 wide, .int .i64 rule, .int .i64 top, .int .i64 least, .int .i64 part, .slice (some ⟨g2, 0, none⟩) n2 d2] rfl rfl 25 #[.string (str []), .slice none 0 0, .int .i64 0, .int .i64 0, .int .i64 0, .int .i64 0, .int .i64 0, .int .i64 0, .int .i64 0, .int .i64 0, .slice none 0 0] HQ.out rfl rfl one.out ?_)
      (try simp only [Exit.inBlock, Exit.then])
      refine bodyPost_ret (results_cell_row rfl _ _ (pb + 1) 25 _ (0, 0) _ rfl (setRow_heap W8 (pb + 1) _ _ _ _ HQ.out) rfl rfl rfl) rfl ?_
      exact ⟨⟨[65, 66, 67, 68, 69], some ⟨g1, 0, none⟩, n1, d1, tick, low, high, wide, rule, top, least, part, some ⟨g2, 0, none⟩, n2, d2, Q, R⟩, rfl, ⟨NX.out, NY.out, (by show ([65, 66, 67, 68, 69] : List UInt8).length ≤ _; simp), cp1.1, cp1.2, cp2.1, cp2.2, ⟨ti1, ti2⟩, ⟨lo1, lo2⟩, ⟨hg1, hg2⟩, ⟨wi1, wi2⟩, ⟨ru1, ru2⟩, ⟨to1, to2⟩, ⟨le1, le2⟩, ⟨pa1, pa2⟩⟩, below_setRow HB8 (show w.heap.size ≤ pb + 1 by omega) _, by intro b off e; first | (cases e; done) | (injection e with e; injection e with e; omega), by intro b off e; first | (cases e; done) | (injection e with e; injection e with e; omega)⟩
    · have q3 : WA.cell? ⟨q, 3, none⟩ = some (.string ⟨#[206, 169]⟩) := qc 3
      clear qc
      have hl8 : (WA.setCell ⟨pb, 0, none⟩ (.string ⟨#[206, 169]⟩)).heap[pb]? = some (.cells #[.string ⟨#[206, 169]⟩, .slice (some ⟨g1, 0, none⟩) n1 d1, .int .i64 tick, .int .i64 low, .int .i64 high, .int .i64 wide, .int .i64 rule, .int .i64 top, .int .i64 least, .int .i64 part, .slice (some ⟨g2, 0, none⟩) n2 d2] 25 (0, 0)) := heap_setCell_same WA pb 0 _ _ (.string ⟨#[206, 169]⟩) hlA
      have hq8 := (heap_setCell_other WA ⟨pb, 0, none⟩ (pb + 1) (.string ⟨#[206, 169]⟩) (show pb + 1 ≠ pb by omega)).trans hqA
      have HB8 := HBA.setCell (p := ⟨pb, 0, none⟩) (show w.heap.size ≤ pb from hpl) (.string ⟨#[206, 169]⟩)
      have N1 := Lib.hid (nums_setCell (a := ⟨pb, 0, none⟩) (v := (.string ⟨#[206, 169]⟩)) N1A (by intro b off e; injection e with e; injection e with e; show b ≠ pb; omega))
      have N2 := Lib.hid (nums_setCell (a := ⟨pb, 0, none⟩) (v := (.string ⟨#[206, 169]⟩)) N2A (by intro b off e; injection e with e; injection e with e; show b ≠ pb; omega))
      clear N1A N2A
      go_upto_region 32 with (fail)
      clear k0 k1 k2 k3 k4 k5 k6 k7 k8 k9 k10 z q3
      obtain ⟨W8, eW8⟩ : ∃ W, WA.setCell ⟨pb, 0, none⟩ (.string ⟨#[206, 169]⟩) = W := ⟨_, rfl⟩
      rw [eW8] at hl8 hq8 HB8 N1 N2 ⊢
      clear eW8
      obtain ⟨k0, k1, k2, k3, k4, k5, k6, k7, k8, k9, k10⟩ := row11 hl8
      have one := Lib.hid (show (#[.string ⟨#[206, 169]⟩, .slice (some ⟨g1, 0, none⟩) n1 d1, .int .i64 tick, .int .i64 low, .int .i64 high, .int .i64 wide, .int .i64 rule, .int .i64 top, .int .i64 least, .int .i64 part, .slice (some ⟨g2, 0, none⟩) n2 d2] : Array Value).all (·.oneCell') = true from by simp [Value.oneCell'])
      have NX := nums_setRow (g := pb + 1) (cs := #[.string ⟨#[206, 169]⟩, .slice (some ⟨g1, 0, none⟩) n1 d1, .int .i64 tick, .int .i64 low, .int .i64 high, .int .i64 wide, .int .i64 rule, .int .i64 top, .int .i64 least, .int .i64 part, .slice (some ⟨g2, 0, none⟩) n2 d2]) (N1.out) (by intro b off e; first | (cases e; done) | (injection e with e; injection e with e; omega))
      have NY := nums_setRow (g := pb + 1) (cs := #[.string ⟨#[206, 169]⟩, .slice (some ⟨g1, 0, none⟩) n1 d1, .int .i64 tick, .int .i64 low, .int .i64 high, .int .i64 wide, .int .i64 rule, .int .i64 top, .int .i64 least, .int .i64 part, .slice (some ⟨g2, 0, none⟩) n2 d2]) (N2.out) (by intro b off e; first | (cases e; done) | (injection e with e; injection e with e; omega))
      replace NX := Lib.hid NX
      replace NY := Lib.hid NY
      have HQ := Lib.hid hq8
      go_wp2_with (refine wpList_store_row rfl 25 (.tmp 6) (.tmp 101) rfl (pb + 1) #[.string ⟨#[206, 169]⟩, .slice (some ⟨g1, 0, none⟩) n1 d1, .int .i64 tick, .int .i64 low, .int .i64 high, .int .i64 wide, .int .i64 rule, .int .i64 top, .int .i64 least, .int .i64 part, .slice (some ⟨g2, 0, none⟩) n2 d2] rfl rfl 25 #[.string (str []), .slice none 0 0, .int .i64 0, .int .i64 0, .int .i64 0, .int .i64 0, .int .i64 0, .int .i64 0, .int .i64 0, .int .i64 0, .slice none 0 0] HQ.out rfl rfl one.out ?_)
      (try simp only [Exit.inBlock, Exit.then])
      refine bodyPost_ret (results_cell_row rfl _ _ (pb + 1) 25 _ (0, 0) _ rfl (setRow_heap W8 (pb + 1) _ _ _ _ HQ.out) rfl rfl rfl) rfl ?_
      exact ⟨⟨[206, 169], some ⟨g1, 0, none⟩, n1, d1, tick, low, high, wide, rule, top, least, part, some ⟨g2, 0, none⟩, n2, d2, Q, R⟩, rfl, ⟨NX.out, NY.out, (by show ([206, 169] : List UInt8).length ≤ _; simp), cp1.1, cp1.2, cp2.1, cp2.2, ⟨ti1, ti2⟩, ⟨lo1, lo2⟩, ⟨hg1, hg2⟩, ⟨wi1, wi2⟩, ⟨ru1, ru2⟩, ⟨to1, to2⟩, ⟨le1, le2⟩, ⟨pa1, pa2⟩⟩, below_setRow HB8 (show w.heap.size ≤ pb + 1 by omega) _, by intro b off e; first | (cases e; done) | (injection e with e; injection e with e; omega), by intro b off e; first | (cases e; done) | (injection e with e; injection e with e; omega)⟩
  have t0 : (how == 0) = false := by simp; exact h0
  clear h0
  by_cases h1 : how = 1
  · have t1 : (how == 1) = true := by simp; exact h1
    clear h1
    obtain ⟨k0, k1, k2, k3, k4, k5, k6, k7, k8, k9, k10⟩ := row11 hl6.out
    obtain ⟨gb, go, ge, z1, -, -⟩ := NM.out 0 (by omega)
    have z0 := C1.out 0
    injection ge with ge; injection ge with ge1 ge2; subst ge1; subst ge2
    have d0 : (0 : Int) < (n1 : Int) := by omega
    have d9 : 0 < n1 := by omega
    have hl8 : (W7.setCell ⟨g1, 0, none⟩ (.int .i64 n)).heap[pb]? = _ := (heap_setCell_other W7 ⟨g1, 0, none⟩ pb (.int .i64 n) (show pb ≠ g1 by omega)).trans hl6.out
    have hq8 := (heap_setCell_other W7 ⟨g1, 0, none⟩ (pb + 1) (.int .i64 n) (show pb + 1 ≠ g1 by omega)).trans hq6.out
    have HB8 := HB6.out.setCell (p := ⟨g1, 0, none⟩) (show w.heap.size ≤ g1 by omega) (.int .i64 n)
    have N1 := Lib.hid (nums_put NM.out (k := 0) (x := n) (by omega) ⟨hn1, hn2⟩)
    have N2 := Lib.hid (nums_setCell (a := ⟨g1, 0, none⟩) (v := (.int .i64 n)) NS.out (by intro b off e; injection e with e; injection e with e; show b ≠ g1; omega))
    go_upto_region 32 with (fail)
    clear k0 k1 k2 k3 k4 k5 k6 k7 k8 k9 k10 z0 z1
    obtain ⟨W8, eW8⟩ : ∃ W, W7.setCell ⟨g1, 0, none⟩ (.int .i64 n) = W := ⟨_, rfl⟩
    rw [eW8] at hl8 hq8 HB8 N1 N2 ⊢
    clear eW8
    obtain ⟨k0, k1, k2, k3, k4, k5, k6, k7, k8, k9, k10⟩ := row11 hl8
    have one := Lib.hid (show (#[.string (str code), .slice (some ⟨g1, 0, none⟩) n1 d1, .int .i64 tick, .int .i64 low, .int .i64 high, .int .i64 wide, .int .i64 rule, .int .i64 top, .int .i64 least, .int .i64 part, .slice (some ⟨g2, 0, none⟩) n2 d2] : Array Value).all (·.oneCell') = true from by simp [Value.oneCell'])
    have NX := nums_setRow (g := pb + 1) (cs := #[.string (str code), .slice (some ⟨g1, 0, none⟩) n1 d1, .int .i64 tick, .int .i64 low, .int .i64 high, .int .i64 wide, .int .i64 rule, .int .i64 top, .int .i64 least, .int .i64 part, .slice (some ⟨g2, 0, none⟩) n2 d2]) (N1.out) (by intro b off e; first | (cases e; done) | (injection e with e; injection e with e; omega))
    have NY := nums_setRow (g := pb + 1) (cs := #[.string (str code), .slice (some ⟨g1, 0, none⟩) n1 d1, .int .i64 tick, .int .i64 low, .int .i64 high, .int .i64 wide, .int .i64 rule, .int .i64 top, .int .i64 least, .int .i64 part, .slice (some ⟨g2, 0, none⟩) n2 d2]) (N2.out) (by intro b off e; first | (cases e; done) | (injection e with e; injection e with e; omega))
    replace NX := Lib.hid NX
    replace NY := Lib.hid NY
    have HQ := Lib.hid hq8
    go_wp2_with (refine wpList_store_row rfl 25 (.tmp 6) (.tmp 101) rfl (pb + 1) #[.string (str code), .slice (some ⟨g1, 0, none⟩) n1 d1, .int .i64 tick, .int .i64 low, .int .i64 high, .int .i64 wide, .int .i64 rule, .int .i64 top, .int .i64 least, .int .i64 part, .slice (some ⟨g2, 0, none⟩) n2 d2] rfl rfl 25 #[.string (str []), .slice none 0 0, .int .i64 0, .int .i64 0, .int .i64 0, .int .i64 0, .int .i64 0, .int .i64 0, .int .i64 0, .int .i64 0, .slice none 0 0] HQ.out rfl rfl one.out ?_)
    (try simp only [Exit.inBlock, Exit.then])
    refine bodyPost_ret (results_cell_row rfl _ _ (pb + 1) 25 _ (0, 0) _ rfl (setRow_heap W8 (pb + 1) _ _ _ _ HQ.out) rfl rfl rfl) rfl ?_
    exact ⟨⟨code, some ⟨g1, 0, none⟩, n1, d1, tick, low, high, wide, rule, top, least, part, some ⟨g2, 0, none⟩, n2, d2, _, R⟩, rfl, ⟨NX.out, NY.out, hco, cp1.1, cp1.2, cp2.1, cp2.2, ⟨ti1, ti2⟩, ⟨lo1, lo2⟩, ⟨hg1, hg2⟩, ⟨wi1, wi2⟩, ⟨ru1, ru2⟩, ⟨to1, to2⟩, ⟨le1, le2⟩, ⟨pa1, pa2⟩⟩, below_setRow HB8 (show w.heap.size ≤ pb + 1 by omega) _, by intro b off e; first | (cases e; done) | (injection e with e; injection e with e; omega), by intro b off e; first | (cases e; done) | (injection e with e; injection e with e; omega)⟩
  have t1 : (how == 1) = false := by simp; exact h1
  clear h1
  by_cases h2 : how = 2
  · have t2 : (how == 2) = true := by simp; exact h2
    clear h2
    obtain ⟨k0, k1, k2, k3, k4, k5, k6, k7, k8, k9, k10⟩ := row11 hl6.out
    have z := frozen_of_row W7 pb 2 _ _ hl6.out
    have hl8 : (W7.setCell ⟨pb, 2, none⟩ (.int .i64 n)).heap[pb]? = some (.cells #[.string (str code), .slice (some ⟨g1, 0, none⟩) n1 d1, .int .i64 n, .int .i64 low, .int .i64 high, .int .i64 wide, .int .i64 rule, .int .i64 top, .int .i64 least, .int .i64 part, .slice (some ⟨g2, 0, none⟩) n2 d2] 25 (0, 0)) := heap_setCell_same W7 pb 2 _ _ (.int .i64 n) hl6.out
    have hq8 := (heap_setCell_other W7 ⟨pb, 2, none⟩ (pb + 1) (.int .i64 n) (show pb + 1 ≠ pb by omega)).trans hq6.out
    have HB8 := HB6.out.setCell (p := ⟨pb, 2, none⟩) (show w.heap.size ≤ pb from hpl) (.int .i64 n)
    have N1 := Lib.hid (nums_setCell (a := ⟨pb, 2, none⟩) (v := (.int .i64 n)) NM.out (by intro b off e; injection e with e; injection e with e; show b ≠ pb; omega))
    have N2 := Lib.hid (nums_setCell (a := ⟨pb, 2, none⟩) (v := (.int .i64 n)) NS.out (by intro b off e; injection e with e; injection e with e; show b ≠ pb; omega))
    go_upto_region 32 with (fail)
    clear k0 k1 k2 k3 k4 k5 k6 k7 k8 k9 k10 z
    obtain ⟨W8, eW8⟩ : ∃ W, W7.setCell ⟨pb, 2, none⟩ (.int .i64 n) = W := ⟨_, rfl⟩
    rw [eW8] at hl8 hq8 HB8 N1 N2 ⊢
    clear eW8
    obtain ⟨k0, k1, k2, k3, k4, k5, k6, k7, k8, k9, k10⟩ := row11 hl8
    have one := Lib.hid (show (#[.string (str code), .slice (some ⟨g1, 0, none⟩) n1 d1, .int .i64 n, .int .i64 low, .int .i64 high, .int .i64 wide, .int .i64 rule, .int .i64 top, .int .i64 least, .int .i64 part, .slice (some ⟨g2, 0, none⟩) n2 d2] : Array Value).all (·.oneCell') = true from by simp [Value.oneCell'])
    have NX := nums_setRow (g := pb + 1) (cs := #[.string (str code), .slice (some ⟨g1, 0, none⟩) n1 d1, .int .i64 n, .int .i64 low, .int .i64 high, .int .i64 wide, .int .i64 rule, .int .i64 top, .int .i64 least, .int .i64 part, .slice (some ⟨g2, 0, none⟩) n2 d2]) (N1.out) (by intro b off e; first | (cases e; done) | (injection e with e; injection e with e; omega))
    have NY := nums_setRow (g := pb + 1) (cs := #[.string (str code), .slice (some ⟨g1, 0, none⟩) n1 d1, .int .i64 n, .int .i64 low, .int .i64 high, .int .i64 wide, .int .i64 rule, .int .i64 top, .int .i64 least, .int .i64 part, .slice (some ⟨g2, 0, none⟩) n2 d2]) (N2.out) (by intro b off e; first | (cases e; done) | (injection e with e; injection e with e; omega))
    replace NX := Lib.hid NX
    replace NY := Lib.hid NY
    have HQ := Lib.hid hq8
    go_wp2_with (refine wpList_store_row rfl 25 (.tmp 6) (.tmp 101) rfl (pb + 1) #[.string (str code), .slice (some ⟨g1, 0, none⟩) n1 d1, .int .i64 n, .int .i64 low, .int .i64 high, .int .i64 wide, .int .i64 rule, .int .i64 top, .int .i64 least, .int .i64 part, .slice (some ⟨g2, 0, none⟩) n2 d2] rfl rfl 25 #[.string (str []), .slice none 0 0, .int .i64 0, .int .i64 0, .int .i64 0, .int .i64 0, .int .i64 0, .int .i64 0, .int .i64 0, .int .i64 0, .slice none 0 0] HQ.out rfl rfl one.out ?_)
    (try simp only [Exit.inBlock, Exit.then])
    refine bodyPost_ret (results_cell_row rfl _ _ (pb + 1) 25 _ (0, 0) _ rfl (setRow_heap W8 (pb + 1) _ _ _ _ HQ.out) rfl rfl rfl) rfl ?_
    exact ⟨⟨code, some ⟨g1, 0, none⟩, n1, d1, n, low, high, wide, rule, top, least, part, some ⟨g2, 0, none⟩, n2, d2, Q, R⟩, rfl, ⟨NX.out, NY.out, hco, cp1.1, cp1.2, cp2.1, cp2.2, ⟨hn1, hn2⟩, ⟨lo1, lo2⟩, ⟨hg1, hg2⟩, ⟨wi1, wi2⟩, ⟨ru1, ru2⟩, ⟨to1, to2⟩, ⟨le1, le2⟩, ⟨pa1, pa2⟩⟩, below_setRow HB8 (show w.heap.size ≤ pb + 1 by omega) _, by intro b off e; first | (cases e; done) | (injection e with e; injection e with e; omega), by intro b off e; first | (cases e; done) | (injection e with e; injection e with e; omega)⟩
  have t2 : (how == 2) = false := by simp; exact h2
  clear h2
  by_cases h3 : how = 3
  · have t3 : (how == 3) = true := by simp; exact h3
    clear h3
    obtain ⟨k0, k1, k2, k3, k4, k5, k6, k7, k8, k9, k10⟩ := row11 hl6.out
    have z := frozen_of_row W7 pb 3 _ _ hl6.out
    have hl8 : (W7.setCell ⟨pb, 3, none⟩ (.int .i64 n)).heap[pb]? = some (.cells #[.string (str code), .slice (some ⟨g1, 0, none⟩) n1 d1, .int .i64 tick, .int .i64 n, .int .i64 high, .int .i64 wide, .int .i64 rule, .int .i64 top, .int .i64 least, .int .i64 part, .slice (some ⟨g2, 0, none⟩) n2 d2] 25 (0, 0)) := heap_setCell_same W7 pb 3 _ _ (.int .i64 n) hl6.out
    have hq8 := (heap_setCell_other W7 ⟨pb, 3, none⟩ (pb + 1) (.int .i64 n) (show pb + 1 ≠ pb by omega)).trans hq6.out
    have HB8 := HB6.out.setCell (p := ⟨pb, 3, none⟩) (show w.heap.size ≤ pb from hpl) (.int .i64 n)
    have N1 := Lib.hid (nums_setCell (a := ⟨pb, 3, none⟩) (v := (.int .i64 n)) NM.out (by intro b off e; injection e with e; injection e with e; show b ≠ pb; omega))
    have N2 := Lib.hid (nums_setCell (a := ⟨pb, 3, none⟩) (v := (.int .i64 n)) NS.out (by intro b off e; injection e with e; injection e with e; show b ≠ pb; omega))
    go_upto_region 32 with (fail)
    clear k0 k1 k2 k3 k4 k5 k6 k7 k8 k9 k10 z
    obtain ⟨W8, eW8⟩ : ∃ W, W7.setCell ⟨pb, 3, none⟩ (.int .i64 n) = W := ⟨_, rfl⟩
    rw [eW8] at hl8 hq8 HB8 N1 N2 ⊢
    clear eW8
    obtain ⟨k0, k1, k2, k3, k4, k5, k6, k7, k8, k9, k10⟩ := row11 hl8
    have one := Lib.hid (show (#[.string (str code), .slice (some ⟨g1, 0, none⟩) n1 d1, .int .i64 tick, .int .i64 n, .int .i64 high, .int .i64 wide, .int .i64 rule, .int .i64 top, .int .i64 least, .int .i64 part, .slice (some ⟨g2, 0, none⟩) n2 d2] : Array Value).all (·.oneCell') = true from by simp [Value.oneCell'])
    have NX := nums_setRow (g := pb + 1) (cs := #[.string (str code), .slice (some ⟨g1, 0, none⟩) n1 d1, .int .i64 tick, .int .i64 n, .int .i64 high, .int .i64 wide, .int .i64 rule, .int .i64 top, .int .i64 least, .int .i64 part, .slice (some ⟨g2, 0, none⟩) n2 d2]) (N1.out) (by intro b off e; first | (cases e; done) | (injection e with e; injection e with e; omega))
    have NY := nums_setRow (g := pb + 1) (cs := #[.string (str code), .slice (some ⟨g1, 0, none⟩) n1 d1, .int .i64 tick, .int .i64 n, .int .i64 high, .int .i64 wide, .int .i64 rule, .int .i64 top, .int .i64 least, .int .i64 part, .slice (some ⟨g2, 0, none⟩) n2 d2]) (N2.out) (by intro b off e; first | (cases e; done) | (injection e with e; injection e with e; omega))
    replace NX := Lib.hid NX
    replace NY := Lib.hid NY
    have HQ := Lib.hid hq8
    go_wp2_with (refine wpList_store_row rfl 25 (.tmp 6) (.tmp 101) rfl (pb + 1) #[.string (str code), .slice (some ⟨g1, 0, none⟩) n1 d1, .int .i64 tick, .int .i64 n, .int .i64 high, .int .i64 wide, .int .i64 rule, .int .i64 top, .int .i64 least, .int .i64 part, .slice (some ⟨g2, 0, none⟩) n2 d2] rfl rfl 25 #[.string (str []), .slice none 0 0, .int .i64 0, .int .i64 0, .int .i64 0, .int .i64 0, .int .i64 0, .int .i64 0, .int .i64 0, .int .i64 0, .slice none 0 0] HQ.out rfl rfl one.out ?_)
    (try simp only [Exit.inBlock, Exit.then])
    refine bodyPost_ret (results_cell_row rfl _ _ (pb + 1) 25 _ (0, 0) _ rfl (setRow_heap W8 (pb + 1) _ _ _ _ HQ.out) rfl rfl rfl) rfl ?_
    exact ⟨⟨code, some ⟨g1, 0, none⟩, n1, d1, tick, n, high, wide, rule, top, least, part, some ⟨g2, 0, none⟩, n2, d2, Q, R⟩, rfl, ⟨NX.out, NY.out, hco, cp1.1, cp1.2, cp2.1, cp2.2, ⟨ti1, ti2⟩, ⟨hn1, hn2⟩, ⟨hg1, hg2⟩, ⟨wi1, wi2⟩, ⟨ru1, ru2⟩, ⟨to1, to2⟩, ⟨le1, le2⟩, ⟨pa1, pa2⟩⟩, below_setRow HB8 (show w.heap.size ≤ pb + 1 by omega) _, by intro b off e; first | (cases e; done) | (injection e with e; injection e with e; omega), by intro b off e; first | (cases e; done) | (injection e with e; injection e with e; omega)⟩
  have t3 : (how == 3) = false := by simp; exact h3
  clear h3
  by_cases h4 : how = 4
  · have t4 : (how == 4) = true := by simp; exact h4
    clear h4
    obtain ⟨k0, k1, k2, k3, k4, k5, k6, k7, k8, k9, k10⟩ := row11 hl6.out
    have z := frozen_of_row W7 pb 4 _ _ hl6.out
    have hl8 : (W7.setCell ⟨pb, 4, none⟩ (.int .i64 n)).heap[pb]? = some (.cells #[.string (str code), .slice (some ⟨g1, 0, none⟩) n1 d1, .int .i64 tick, .int .i64 low, .int .i64 n, .int .i64 wide, .int .i64 rule, .int .i64 top, .int .i64 least, .int .i64 part, .slice (some ⟨g2, 0, none⟩) n2 d2] 25 (0, 0)) := heap_setCell_same W7 pb 4 _ _ (.int .i64 n) hl6.out
    have hq8 := (heap_setCell_other W7 ⟨pb, 4, none⟩ (pb + 1) (.int .i64 n) (show pb + 1 ≠ pb by omega)).trans hq6.out
    have HB8 := HB6.out.setCell (p := ⟨pb, 4, none⟩) (show w.heap.size ≤ pb from hpl) (.int .i64 n)
    have N1 := Lib.hid (nums_setCell (a := ⟨pb, 4, none⟩) (v := (.int .i64 n)) NM.out (by intro b off e; injection e with e; injection e with e; show b ≠ pb; omega))
    have N2 := Lib.hid (nums_setCell (a := ⟨pb, 4, none⟩) (v := (.int .i64 n)) NS.out (by intro b off e; injection e with e; injection e with e; show b ≠ pb; omega))
    go_upto_region 32 with (fail)
    clear k0 k1 k2 k3 k4 k5 k6 k7 k8 k9 k10 z
    obtain ⟨W8, eW8⟩ : ∃ W, W7.setCell ⟨pb, 4, none⟩ (.int .i64 n) = W := ⟨_, rfl⟩
    rw [eW8] at hl8 hq8 HB8 N1 N2 ⊢
    clear eW8
    obtain ⟨k0, k1, k2, k3, k4, k5, k6, k7, k8, k9, k10⟩ := row11 hl8
    have one := Lib.hid (show (#[.string (str code), .slice (some ⟨g1, 0, none⟩) n1 d1, .int .i64 tick, .int .i64 low, .int .i64 n, .int .i64 wide, .int .i64 rule, .int .i64 top, .int .i64 least, .int .i64 part, .slice (some ⟨g2, 0, none⟩) n2 d2] : Array Value).all (·.oneCell') = true from by simp [Value.oneCell'])
    have NX := nums_setRow (g := pb + 1) (cs := #[.string (str code), .slice (some ⟨g1, 0, none⟩) n1 d1, .int .i64 tick, .int .i64 low, .int .i64 n, .int .i64 wide, .int .i64 rule, .int .i64 top, .int .i64 least, .int .i64 part, .slice (some ⟨g2, 0, none⟩) n2 d2]) (N1.out) (by intro b off e; first | (cases e; done) | (injection e with e; injection e with e; omega))
    have NY := nums_setRow (g := pb + 1) (cs := #[.string (str code), .slice (some ⟨g1, 0, none⟩) n1 d1, .int .i64 tick, .int .i64 low, .int .i64 n, .int .i64 wide, .int .i64 rule, .int .i64 top, .int .i64 least, .int .i64 part, .slice (some ⟨g2, 0, none⟩) n2 d2]) (N2.out) (by intro b off e; first | (cases e; done) | (injection e with e; injection e with e; omega))
    replace NX := Lib.hid NX
    replace NY := Lib.hid NY
    have HQ := Lib.hid hq8
    go_wp2_with (refine wpList_store_row rfl 25 (.tmp 6) (.tmp 101) rfl (pb + 1) #[.string (str code), .slice (some ⟨g1, 0, none⟩) n1 d1, .int .i64 tick, .int .i64 low, .int .i64 n, .int .i64 wide, .int .i64 rule, .int .i64 top, .int .i64 least, .int .i64 part, .slice (some ⟨g2, 0, none⟩) n2 d2] rfl rfl 25 #[.string (str []), .slice none 0 0, .int .i64 0, .int .i64 0, .int .i64 0, .int .i64 0, .int .i64 0, .int .i64 0, .int .i64 0, .int .i64 0, .slice none 0 0] HQ.out rfl rfl one.out ?_)
    (try simp only [Exit.inBlock, Exit.then])
    refine bodyPost_ret (results_cell_row rfl _ _ (pb + 1) 25 _ (0, 0) _ rfl (setRow_heap W8 (pb + 1) _ _ _ _ HQ.out) rfl rfl rfl) rfl ?_
    exact ⟨⟨code, some ⟨g1, 0, none⟩, n1, d1, tick, low, n, wide, rule, top, least, part, some ⟨g2, 0, none⟩, n2, d2, Q, R⟩, rfl, ⟨NX.out, NY.out, hco, cp1.1, cp1.2, cp2.1, cp2.2, ⟨ti1, ti2⟩, ⟨lo1, lo2⟩, ⟨hn1, hn2⟩, ⟨wi1, wi2⟩, ⟨ru1, ru2⟩, ⟨to1, to2⟩, ⟨le1, le2⟩, ⟨pa1, pa2⟩⟩, below_setRow HB8 (show w.heap.size ≤ pb + 1 by omega) _, by intro b off e; first | (cases e; done) | (injection e with e; injection e with e; omega), by intro b off e; first | (cases e; done) | (injection e with e; injection e with e; omega)⟩
  have t4 : (how == 4) = false := by simp; exact h4
  clear h4
  by_cases h5 : how = 5
  · have t5 : (how == 5) = true := by simp; exact h5
    clear h5
    obtain ⟨k0, k1, k2, k3, k4, k5, k6, k7, k8, k9, k10⟩ := row11 hl6.out
    have z := frozen_of_row W7 pb 5 _ _ hl6.out
    have hl8 : (W7.setCell ⟨pb, 5, none⟩ (.int .i64 n)).heap[pb]? = some (.cells #[.string (str code), .slice (some ⟨g1, 0, none⟩) n1 d1, .int .i64 tick, .int .i64 low, .int .i64 high, .int .i64 n, .int .i64 rule, .int .i64 top, .int .i64 least, .int .i64 part, .slice (some ⟨g2, 0, none⟩) n2 d2] 25 (0, 0)) := heap_setCell_same W7 pb 5 _ _ (.int .i64 n) hl6.out
    have hq8 := (heap_setCell_other W7 ⟨pb, 5, none⟩ (pb + 1) (.int .i64 n) (show pb + 1 ≠ pb by omega)).trans hq6.out
    have HB8 := HB6.out.setCell (p := ⟨pb, 5, none⟩) (show w.heap.size ≤ pb from hpl) (.int .i64 n)
    have N1 := Lib.hid (nums_setCell (a := ⟨pb, 5, none⟩) (v := (.int .i64 n)) NM.out (by intro b off e; injection e with e; injection e with e; show b ≠ pb; omega))
    have N2 := Lib.hid (nums_setCell (a := ⟨pb, 5, none⟩) (v := (.int .i64 n)) NS.out (by intro b off e; injection e with e; injection e with e; show b ≠ pb; omega))
    go_upto_region 32 with (fail)
    clear k0 k1 k2 k3 k4 k5 k6 k7 k8 k9 k10 z
    obtain ⟨W8, eW8⟩ : ∃ W, W7.setCell ⟨pb, 5, none⟩ (.int .i64 n) = W := ⟨_, rfl⟩
    rw [eW8] at hl8 hq8 HB8 N1 N2 ⊢
    clear eW8
    obtain ⟨k0, k1, k2, k3, k4, k5, k6, k7, k8, k9, k10⟩ := row11 hl8
    have one := Lib.hid (show (#[.string (str code), .slice (some ⟨g1, 0, none⟩) n1 d1, .int .i64 tick, .int .i64 low, .int .i64 high, .int .i64 n, .int .i64 rule, .int .i64 top, .int .i64 least, .int .i64 part, .slice (some ⟨g2, 0, none⟩) n2 d2] : Array Value).all (·.oneCell') = true from by simp [Value.oneCell'])
    have NX := nums_setRow (g := pb + 1) (cs := #[.string (str code), .slice (some ⟨g1, 0, none⟩) n1 d1, .int .i64 tick, .int .i64 low, .int .i64 high, .int .i64 n, .int .i64 rule, .int .i64 top, .int .i64 least, .int .i64 part, .slice (some ⟨g2, 0, none⟩) n2 d2]) (N1.out) (by intro b off e; first | (cases e; done) | (injection e with e; injection e with e; omega))
    have NY := nums_setRow (g := pb + 1) (cs := #[.string (str code), .slice (some ⟨g1, 0, none⟩) n1 d1, .int .i64 tick, .int .i64 low, .int .i64 high, .int .i64 n, .int .i64 rule, .int .i64 top, .int .i64 least, .int .i64 part, .slice (some ⟨g2, 0, none⟩) n2 d2]) (N2.out) (by intro b off e; first | (cases e; done) | (injection e with e; injection e with e; omega))
    replace NX := Lib.hid NX
    replace NY := Lib.hid NY
    have HQ := Lib.hid hq8
    go_wp2_with (refine wpList_store_row rfl 25 (.tmp 6) (.tmp 101) rfl (pb + 1) #[.string (str code), .slice (some ⟨g1, 0, none⟩) n1 d1, .int .i64 tick, .int .i64 low, .int .i64 high, .int .i64 n, .int .i64 rule, .int .i64 top, .int .i64 least, .int .i64 part, .slice (some ⟨g2, 0, none⟩) n2 d2] rfl rfl 25 #[.string (str []), .slice none 0 0, .int .i64 0, .int .i64 0, .int .i64 0, .int .i64 0, .int .i64 0, .int .i64 0, .int .i64 0, .int .i64 0, .slice none 0 0] HQ.out rfl rfl one.out ?_)
    (try simp only [Exit.inBlock, Exit.then])
    refine bodyPost_ret (results_cell_row rfl _ _ (pb + 1) 25 _ (0, 0) _ rfl (setRow_heap W8 (pb + 1) _ _ _ _ HQ.out) rfl rfl rfl) rfl ?_
    exact ⟨⟨code, some ⟨g1, 0, none⟩, n1, d1, tick, low, high, n, rule, top, least, part, some ⟨g2, 0, none⟩, n2, d2, Q, R⟩, rfl, ⟨NX.out, NY.out, hco, cp1.1, cp1.2, cp2.1, cp2.2, ⟨ti1, ti2⟩, ⟨lo1, lo2⟩, ⟨hg1, hg2⟩, ⟨hn1, hn2⟩, ⟨ru1, ru2⟩, ⟨to1, to2⟩, ⟨le1, le2⟩, ⟨pa1, pa2⟩⟩, below_setRow HB8 (show w.heap.size ≤ pb + 1 by omega) _, by intro b off e; first | (cases e; done) | (injection e with e; injection e with e; omega), by intro b off e; first | (cases e; done) | (injection e with e; injection e with e; omega)⟩
  have t5 : (how == 5) = false := by simp; exact h5
  clear h5
  by_cases h6 : how = 6
  · have t6 : (how == 6) = true := by simp; exact h6
    clear h6
    obtain ⟨k0, k1, k2, k3, k4, k5, k6, k7, k8, k9, k10⟩ := row11 hl6.out
    have z := frozen_of_row W7 pb 6 _ _ hl6.out
    have hl8 : (W7.setCell ⟨pb, 6, none⟩ (.int .i64 n)).heap[pb]? = some (.cells #[.string (str code), .slice (some ⟨g1, 0, none⟩) n1 d1, .int .i64 tick, .int .i64 low, .int .i64 high, .int .i64 wide, .int .i64 n, .int .i64 top, .int .i64 least, .int .i64 part, .slice (some ⟨g2, 0, none⟩) n2 d2] 25 (0, 0)) := heap_setCell_same W7 pb 6 _ _ (.int .i64 n) hl6.out
    have hq8 := (heap_setCell_other W7 ⟨pb, 6, none⟩ (pb + 1) (.int .i64 n) (show pb + 1 ≠ pb by omega)).trans hq6.out
    have HB8 := HB6.out.setCell (p := ⟨pb, 6, none⟩) (show w.heap.size ≤ pb from hpl) (.int .i64 n)
    have N1 := Lib.hid (nums_setCell (a := ⟨pb, 6, none⟩) (v := (.int .i64 n)) NM.out (by intro b off e; injection e with e; injection e with e; show b ≠ pb; omega))
    have N2 := Lib.hid (nums_setCell (a := ⟨pb, 6, none⟩) (v := (.int .i64 n)) NS.out (by intro b off e; injection e with e; injection e with e; show b ≠ pb; omega))
    go_upto_region 32 with (fail)
    clear k0 k1 k2 k3 k4 k5 k6 k7 k8 k9 k10 z
    obtain ⟨W8, eW8⟩ : ∃ W, W7.setCell ⟨pb, 6, none⟩ (.int .i64 n) = W := ⟨_, rfl⟩
    rw [eW8] at hl8 hq8 HB8 N1 N2 ⊢
    clear eW8
    obtain ⟨k0, k1, k2, k3, k4, k5, k6, k7, k8, k9, k10⟩ := row11 hl8
    have one := Lib.hid (show (#[.string (str code), .slice (some ⟨g1, 0, none⟩) n1 d1, .int .i64 tick, .int .i64 low, .int .i64 high, .int .i64 wide, .int .i64 n, .int .i64 top, .int .i64 least, .int .i64 part, .slice (some ⟨g2, 0, none⟩) n2 d2] : Array Value).all (·.oneCell') = true from by simp [Value.oneCell'])
    have NX := nums_setRow (g := pb + 1) (cs := #[.string (str code), .slice (some ⟨g1, 0, none⟩) n1 d1, .int .i64 tick, .int .i64 low, .int .i64 high, .int .i64 wide, .int .i64 n, .int .i64 top, .int .i64 least, .int .i64 part, .slice (some ⟨g2, 0, none⟩) n2 d2]) (N1.out) (by intro b off e; first | (cases e; done) | (injection e with e; injection e with e; omega))
    have NY := nums_setRow (g := pb + 1) (cs := #[.string (str code), .slice (some ⟨g1, 0, none⟩) n1 d1, .int .i64 tick, .int .i64 low, .int .i64 high, .int .i64 wide, .int .i64 n, .int .i64 top, .int .i64 least, .int .i64 part, .slice (some ⟨g2, 0, none⟩) n2 d2]) (N2.out) (by intro b off e; first | (cases e; done) | (injection e with e; injection e with e; omega))
    replace NX := Lib.hid NX
    replace NY := Lib.hid NY
    have HQ := Lib.hid hq8
    go_wp2_with (refine wpList_store_row rfl 25 (.tmp 6) (.tmp 101) rfl (pb + 1) #[.string (str code), .slice (some ⟨g1, 0, none⟩) n1 d1, .int .i64 tick, .int .i64 low, .int .i64 high, .int .i64 wide, .int .i64 n, .int .i64 top, .int .i64 least, .int .i64 part, .slice (some ⟨g2, 0, none⟩) n2 d2] rfl rfl 25 #[.string (str []), .slice none 0 0, .int .i64 0, .int .i64 0, .int .i64 0, .int .i64 0, .int .i64 0, .int .i64 0, .int .i64 0, .int .i64 0, .slice none 0 0] HQ.out rfl rfl one.out ?_)
    (try simp only [Exit.inBlock, Exit.then])
    refine bodyPost_ret (results_cell_row rfl _ _ (pb + 1) 25 _ (0, 0) _ rfl (setRow_heap W8 (pb + 1) _ _ _ _ HQ.out) rfl rfl rfl) rfl ?_
    exact ⟨⟨code, some ⟨g1, 0, none⟩, n1, d1, tick, low, high, wide, n, top, least, part, some ⟨g2, 0, none⟩, n2, d2, Q, R⟩, rfl, ⟨NX.out, NY.out, hco, cp1.1, cp1.2, cp2.1, cp2.2, ⟨ti1, ti2⟩, ⟨lo1, lo2⟩, ⟨hg1, hg2⟩, ⟨wi1, wi2⟩, ⟨hn1, hn2⟩, ⟨to1, to2⟩, ⟨le1, le2⟩, ⟨pa1, pa2⟩⟩, below_setRow HB8 (show w.heap.size ≤ pb + 1 by omega) _, by intro b off e; first | (cases e; done) | (injection e with e; injection e with e; omega), by intro b off e; first | (cases e; done) | (injection e with e; injection e with e; omega)⟩
  have t6 : (how == 6) = false := by simp; exact h6
  clear h6
  by_cases h7 : how = 7
  · have t7 : (how == 7) = true := by simp; exact h7
    clear h7
    obtain ⟨k0, k1, k2, k3, k4, k5, k6, k7, k8, k9, k10⟩ := row11 hl6.out
    have z := frozen_of_row W7 pb 7 _ _ hl6.out
    have hl8 : (W7.setCell ⟨pb, 7, none⟩ (.int .i64 n)).heap[pb]? = some (.cells #[.string (str code), .slice (some ⟨g1, 0, none⟩) n1 d1, .int .i64 tick, .int .i64 low, .int .i64 high, .int .i64 wide, .int .i64 rule, .int .i64 n, .int .i64 least, .int .i64 part, .slice (some ⟨g2, 0, none⟩) n2 d2] 25 (0, 0)) := heap_setCell_same W7 pb 7 _ _ (.int .i64 n) hl6.out
    have hq8 := (heap_setCell_other W7 ⟨pb, 7, none⟩ (pb + 1) (.int .i64 n) (show pb + 1 ≠ pb by omega)).trans hq6.out
    have HB8 := HB6.out.setCell (p := ⟨pb, 7, none⟩) (show w.heap.size ≤ pb from hpl) (.int .i64 n)
    have N1 := Lib.hid (nums_setCell (a := ⟨pb, 7, none⟩) (v := (.int .i64 n)) NM.out (by intro b off e; injection e with e; injection e with e; show b ≠ pb; omega))
    have N2 := Lib.hid (nums_setCell (a := ⟨pb, 7, none⟩) (v := (.int .i64 n)) NS.out (by intro b off e; injection e with e; injection e with e; show b ≠ pb; omega))
    go_upto_region 32 with (fail)
    clear k0 k1 k2 k3 k4 k5 k6 k7 k8 k9 k10 z
    obtain ⟨W8, eW8⟩ : ∃ W, W7.setCell ⟨pb, 7, none⟩ (.int .i64 n) = W := ⟨_, rfl⟩
    rw [eW8] at hl8 hq8 HB8 N1 N2 ⊢
    clear eW8
    obtain ⟨k0, k1, k2, k3, k4, k5, k6, k7, k8, k9, k10⟩ := row11 hl8
    have one := Lib.hid (show (#[.string (str code), .slice (some ⟨g1, 0, none⟩) n1 d1, .int .i64 tick, .int .i64 low, .int .i64 high, .int .i64 wide, .int .i64 rule, .int .i64 n, .int .i64 least, .int .i64 part, .slice (some ⟨g2, 0, none⟩) n2 d2] : Array Value).all (·.oneCell') = true from by simp [Value.oneCell'])
    have NX := nums_setRow (g := pb + 1) (cs := #[.string (str code), .slice (some ⟨g1, 0, none⟩) n1 d1, .int .i64 tick, .int .i64 low, .int .i64 high, .int .i64 wide, .int .i64 rule, .int .i64 n, .int .i64 least, .int .i64 part, .slice (some ⟨g2, 0, none⟩) n2 d2]) (N1.out) (by intro b off e; first | (cases e; done) | (injection e with e; injection e with e; omega))
    have NY := nums_setRow (g := pb + 1) (cs := #[.string (str code), .slice (some ⟨g1, 0, none⟩) n1 d1, .int .i64 tick, .int .i64 low, .int .i64 high, .int .i64 wide, .int .i64 rule, .int .i64 n, .int .i64 least, .int .i64 part, .slice (some ⟨g2, 0, none⟩) n2 d2]) (N2.out) (by intro b off e; first | (cases e; done) | (injection e with e; injection e with e; omega))
    replace NX := Lib.hid NX
    replace NY := Lib.hid NY
    have HQ := Lib.hid hq8
    go_wp2_with (refine wpList_store_row rfl 25 (.tmp 6) (.tmp 101) rfl (pb + 1) #[.string (str code), .slice (some ⟨g1, 0, none⟩) n1 d1, .int .i64 tick, .int .i64 low, .int .i64 high, .int .i64 wide, .int .i64 rule, .int .i64 n, .int .i64 least, .int .i64 part, .slice (some ⟨g2, 0, none⟩) n2 d2] rfl rfl 25 #[.string (str []), .slice none 0 0, .int .i64 0, .int .i64 0, .int .i64 0, .int .i64 0, .int .i64 0, .int .i64 0, .int .i64 0, .int .i64 0, .slice none 0 0] HQ.out rfl rfl one.out ?_)
    (try simp only [Exit.inBlock, Exit.then])
    refine bodyPost_ret (results_cell_row rfl _ _ (pb + 1) 25 _ (0, 0) _ rfl (setRow_heap W8 (pb + 1) _ _ _ _ HQ.out) rfl rfl rfl) rfl ?_
    exact ⟨⟨code, some ⟨g1, 0, none⟩, n1, d1, tick, low, high, wide, rule, n, least, part, some ⟨g2, 0, none⟩, n2, d2, Q, R⟩, rfl, ⟨NX.out, NY.out, hco, cp1.1, cp1.2, cp2.1, cp2.2, ⟨ti1, ti2⟩, ⟨lo1, lo2⟩, ⟨hg1, hg2⟩, ⟨wi1, wi2⟩, ⟨ru1, ru2⟩, ⟨hn1, hn2⟩, ⟨le1, le2⟩, ⟨pa1, pa2⟩⟩, below_setRow HB8 (show w.heap.size ≤ pb + 1 by omega) _, by intro b off e; first | (cases e; done) | (injection e with e; injection e with e; omega), by intro b off e; first | (cases e; done) | (injection e with e; injection e with e; omega)⟩
  have t7 : (how == 7) = false := by simp; exact h7
  clear h7
  by_cases h8 : how = 8
  · have t8 : (how == 8) = true := by simp; exact h8
    clear h8
    obtain ⟨k0, k1, k2, k3, k4, k5, k6, k7, k8, k9, k10⟩ := row11 hl6.out
    have z := frozen_of_row W7 pb 8 _ _ hl6.out
    have hl8 : (W7.setCell ⟨pb, 8, none⟩ (.int .i64 n)).heap[pb]? = some (.cells #[.string (str code), .slice (some ⟨g1, 0, none⟩) n1 d1, .int .i64 tick, .int .i64 low, .int .i64 high, .int .i64 wide, .int .i64 rule, .int .i64 top, .int .i64 n, .int .i64 part, .slice (some ⟨g2, 0, none⟩) n2 d2] 25 (0, 0)) := heap_setCell_same W7 pb 8 _ _ (.int .i64 n) hl6.out
    have hq8 := (heap_setCell_other W7 ⟨pb, 8, none⟩ (pb + 1) (.int .i64 n) (show pb + 1 ≠ pb by omega)).trans hq6.out
    have HB8 := HB6.out.setCell (p := ⟨pb, 8, none⟩) (show w.heap.size ≤ pb from hpl) (.int .i64 n)
    have N1 := Lib.hid (nums_setCell (a := ⟨pb, 8, none⟩) (v := (.int .i64 n)) NM.out (by intro b off e; injection e with e; injection e with e; show b ≠ pb; omega))
    have N2 := Lib.hid (nums_setCell (a := ⟨pb, 8, none⟩) (v := (.int .i64 n)) NS.out (by intro b off e; injection e with e; injection e with e; show b ≠ pb; omega))
    go_upto_region 32 with (fail)
    clear k0 k1 k2 k3 k4 k5 k6 k7 k8 k9 k10 z
    obtain ⟨W8, eW8⟩ : ∃ W, W7.setCell ⟨pb, 8, none⟩ (.int .i64 n) = W := ⟨_, rfl⟩
    rw [eW8] at hl8 hq8 HB8 N1 N2 ⊢
    clear eW8
    obtain ⟨k0, k1, k2, k3, k4, k5, k6, k7, k8, k9, k10⟩ := row11 hl8
    have one := Lib.hid (show (#[.string (str code), .slice (some ⟨g1, 0, none⟩) n1 d1, .int .i64 tick, .int .i64 low, .int .i64 high, .int .i64 wide, .int .i64 rule, .int .i64 top, .int .i64 n, .int .i64 part, .slice (some ⟨g2, 0, none⟩) n2 d2] : Array Value).all (·.oneCell') = true from by simp [Value.oneCell'])
    have NX := nums_setRow (g := pb + 1) (cs := #[.string (str code), .slice (some ⟨g1, 0, none⟩) n1 d1, .int .i64 tick, .int .i64 low, .int .i64 high, .int .i64 wide, .int .i64 rule, .int .i64 top, .int .i64 n, .int .i64 part, .slice (some ⟨g2, 0, none⟩) n2 d2]) (N1.out) (by intro b off e; first | (cases e; done) | (injection e with e; injection e with e; omega))
    have NY := nums_setRow (g := pb + 1) (cs := #[.string (str code), .slice (some ⟨g1, 0, none⟩) n1 d1, .int .i64 tick, .int .i64 low, .int .i64 high, .int .i64 wide, .int .i64 rule, .int .i64 top, .int .i64 n, .int .i64 part, .slice (some ⟨g2, 0, none⟩) n2 d2]) (N2.out) (by intro b off e; first | (cases e; done) | (injection e with e; injection e with e; omega))
    replace NX := Lib.hid NX
    replace NY := Lib.hid NY
    have HQ := Lib.hid hq8
    go_wp2_with (refine wpList_store_row rfl 25 (.tmp 6) (.tmp 101) rfl (pb + 1) #[.string (str code), .slice (some ⟨g1, 0, none⟩) n1 d1, .int .i64 tick, .int .i64 low, .int .i64 high, .int .i64 wide, .int .i64 rule, .int .i64 top, .int .i64 n, .int .i64 part, .slice (some ⟨g2, 0, none⟩) n2 d2] rfl rfl 25 #[.string (str []), .slice none 0 0, .int .i64 0, .int .i64 0, .int .i64 0, .int .i64 0, .int .i64 0, .int .i64 0, .int .i64 0, .int .i64 0, .slice none 0 0] HQ.out rfl rfl one.out ?_)
    (try simp only [Exit.inBlock, Exit.then])
    refine bodyPost_ret (results_cell_row rfl _ _ (pb + 1) 25 _ (0, 0) _ rfl (setRow_heap W8 (pb + 1) _ _ _ _ HQ.out) rfl rfl rfl) rfl ?_
    exact ⟨⟨code, some ⟨g1, 0, none⟩, n1, d1, tick, low, high, wide, rule, top, n, part, some ⟨g2, 0, none⟩, n2, d2, Q, R⟩, rfl, ⟨NX.out, NY.out, hco, cp1.1, cp1.2, cp2.1, cp2.2, ⟨ti1, ti2⟩, ⟨lo1, lo2⟩, ⟨hg1, hg2⟩, ⟨wi1, wi2⟩, ⟨ru1, ru2⟩, ⟨to1, to2⟩, ⟨hn1, hn2⟩, ⟨pa1, pa2⟩⟩, below_setRow HB8 (show w.heap.size ≤ pb + 1 by omega) _, by intro b off e; first | (cases e; done) | (injection e with e; injection e with e; omega), by intro b off e; first | (cases e; done) | (injection e with e; injection e with e; omega)⟩
  have t8 : (how == 8) = false := by simp; exact h8
  clear h8
  by_cases h9 : how = 9
  · have t9 : (how == 9) = true := by simp; exact h9
    clear h9
    obtain ⟨k0, k1, k2, k3, k4, k5, k6, k7, k8, k9, k10⟩ := row11 hl6.out
    have z := frozen_of_row W7 pb 9 _ _ hl6.out
    have hl8 : (W7.setCell ⟨pb, 9, none⟩ (.int .i64 n)).heap[pb]? = some (.cells #[.string (str code), .slice (some ⟨g1, 0, none⟩) n1 d1, .int .i64 tick, .int .i64 low, .int .i64 high, .int .i64 wide, .int .i64 rule, .int .i64 top, .int .i64 least, .int .i64 n, .slice (some ⟨g2, 0, none⟩) n2 d2] 25 (0, 0)) := heap_setCell_same W7 pb 9 _ _ (.int .i64 n) hl6.out
    have hq8 := (heap_setCell_other W7 ⟨pb, 9, none⟩ (pb + 1) (.int .i64 n) (show pb + 1 ≠ pb by omega)).trans hq6.out
    have HB8 := HB6.out.setCell (p := ⟨pb, 9, none⟩) (show w.heap.size ≤ pb from hpl) (.int .i64 n)
    have N1 := Lib.hid (nums_setCell (a := ⟨pb, 9, none⟩) (v := (.int .i64 n)) NM.out (by intro b off e; injection e with e; injection e with e; show b ≠ pb; omega))
    have N2 := Lib.hid (nums_setCell (a := ⟨pb, 9, none⟩) (v := (.int .i64 n)) NS.out (by intro b off e; injection e with e; injection e with e; show b ≠ pb; omega))
    go_upto_region 32 with (fail)
    clear k0 k1 k2 k3 k4 k5 k6 k7 k8 k9 k10 z
    obtain ⟨W8, eW8⟩ : ∃ W, W7.setCell ⟨pb, 9, none⟩ (.int .i64 n) = W := ⟨_, rfl⟩
    rw [eW8] at hl8 hq8 HB8 N1 N2 ⊢
    clear eW8
    obtain ⟨k0, k1, k2, k3, k4, k5, k6, k7, k8, k9, k10⟩ := row11 hl8
    have one := Lib.hid (show (#[.string (str code), .slice (some ⟨g1, 0, none⟩) n1 d1, .int .i64 tick, .int .i64 low, .int .i64 high, .int .i64 wide, .int .i64 rule, .int .i64 top, .int .i64 least, .int .i64 n, .slice (some ⟨g2, 0, none⟩) n2 d2] : Array Value).all (·.oneCell') = true from by simp [Value.oneCell'])
    have NX := nums_setRow (g := pb + 1) (cs := #[.string (str code), .slice (some ⟨g1, 0, none⟩) n1 d1, .int .i64 tick, .int .i64 low, .int .i64 high, .int .i64 wide, .int .i64 rule, .int .i64 top, .int .i64 least, .int .i64 n, .slice (some ⟨g2, 0, none⟩) n2 d2]) (N1.out) (by intro b off e; first | (cases e; done) | (injection e with e; injection e with e; omega))
    have NY := nums_setRow (g := pb + 1) (cs := #[.string (str code), .slice (some ⟨g1, 0, none⟩) n1 d1, .int .i64 tick, .int .i64 low, .int .i64 high, .int .i64 wide, .int .i64 rule, .int .i64 top, .int .i64 least, .int .i64 n, .slice (some ⟨g2, 0, none⟩) n2 d2]) (N2.out) (by intro b off e; first | (cases e; done) | (injection e with e; injection e with e; omega))
    replace NX := Lib.hid NX
    replace NY := Lib.hid NY
    have HQ := Lib.hid hq8
    go_wp2_with (refine wpList_store_row rfl 25 (.tmp 6) (.tmp 101) rfl (pb + 1) #[.string (str code), .slice (some ⟨g1, 0, none⟩) n1 d1, .int .i64 tick, .int .i64 low, .int .i64 high, .int .i64 wide, .int .i64 rule, .int .i64 top, .int .i64 least, .int .i64 n, .slice (some ⟨g2, 0, none⟩) n2 d2] rfl rfl 25 #[.string (str []), .slice none 0 0, .int .i64 0, .int .i64 0, .int .i64 0, .int .i64 0, .int .i64 0, .int .i64 0, .int .i64 0, .int .i64 0, .slice none 0 0] HQ.out rfl rfl one.out ?_)
    (try simp only [Exit.inBlock, Exit.then])
    refine bodyPost_ret (results_cell_row rfl _ _ (pb + 1) 25 _ (0, 0) _ rfl (setRow_heap W8 (pb + 1) _ _ _ _ HQ.out) rfl rfl rfl) rfl ?_
    exact ⟨⟨code, some ⟨g1, 0, none⟩, n1, d1, tick, low, high, wide, rule, top, least, n, some ⟨g2, 0, none⟩, n2, d2, Q, R⟩, rfl, ⟨NX.out, NY.out, hco, cp1.1, cp1.2, cp2.1, cp2.2, ⟨ti1, ti2⟩, ⟨lo1, lo2⟩, ⟨hg1, hg2⟩, ⟨wi1, wi2⟩, ⟨ru1, ru2⟩, ⟨to1, to2⟩, ⟨le1, le2⟩, ⟨hn1, hn2⟩⟩, below_setRow HB8 (show w.heap.size ≤ pb + 1 by omega) _, by intro b off e; first | (cases e; done) | (injection e with e; injection e with e; omega), by intro b off e; first | (cases e; done) | (injection e with e; injection e with e; omega)⟩
  have t9 : (how == 9) = false := by simp; exact h9
  clear h9
  by_cases h10 : how = 10
  · have t10 : (how == 10) = true := by simp; exact h10
    clear h10
    obtain ⟨k0, k1, k2, k3, k4, k5, k6, k7, k8, k9, k10⟩ := row11 hl6.out
    obtain ⟨m2, rfl⟩ : ∃ m, n2 = m + 1 := ⟨n2 - 1, by omega⟩
    obtain ⟨gb, go, ge, z1, -, -⟩ := NS.out m2 (by omega)
    have z0 := C2.out m2
    injection ge with ge; injection ge with ge1 ge2; subst ge1; subst ge2
    rw [Nat.zero_add] at z1
    have d0 : (m2 : Int) < ((m2 + 1 : Nat) : Int) := by omega
    have d9 : m2 < m2 + 1 := by omega
    have hl8 : (W7.setCell ⟨g2, m2, none⟩ (.int .i64 n)).heap[pb]? = _ := (heap_setCell_other W7 ⟨g2, m2, none⟩ pb (.int .i64 n) (show pb ≠ g2 by omega)).trans hl6.out
    have hq8 := (heap_setCell_other W7 ⟨g2, m2, none⟩ (pb + 1) (.int .i64 n) (show pb + 1 ≠ g2 by omega)).trans hq6.out
    have HB8 := HB6.out.setCell (p := ⟨g2, m2, none⟩) (show w.heap.size ≤ g2 by omega) (.int .i64 n)
    have N2 := Lib.hid (nums_put NS.out (k := m2) (x := n) (by omega) ⟨hn1, hn2⟩)
    have N1 := Lib.hid (nums_setCell (a := ⟨g2, m2, none⟩) (v := (.int .i64 n)) NM.out (by intro b off e; injection e with e; injection e with e; show b ≠ g2; omega))
    go_upto_region 32 with (fail)
    clear k0 k1 k2 k3 k4 k5 k6 k7 k8 k9 k10 z0 z1
    obtain ⟨W8, eW8⟩ : ∃ W, W7.setCell ⟨g2, m2, none⟩ (.int .i64 n) = W := ⟨_, rfl⟩
    rw [eW8] at hl8 hq8 HB8 N1 N2 ⊢
    clear eW8
    obtain ⟨k0, k1, k2, k3, k4, k5, k6, k7, k8, k9, k10⟩ := row11 hl8
    have one := Lib.hid (show (#[.string (str code), .slice (some ⟨g1, 0, none⟩) n1 d1, .int .i64 tick, .int .i64 low, .int .i64 high, .int .i64 wide, .int .i64 rule, .int .i64 top, .int .i64 least, .int .i64 part, .slice (some ⟨g2, 0, none⟩) (m2 + 1) d2] : Array Value).all (·.oneCell') = true from by simp [Value.oneCell'])
    have NX := nums_setRow (g := pb + 1) (cs := #[.string (str code), .slice (some ⟨g1, 0, none⟩) n1 d1, .int .i64 tick, .int .i64 low, .int .i64 high, .int .i64 wide, .int .i64 rule, .int .i64 top, .int .i64 least, .int .i64 part, .slice (some ⟨g2, 0, none⟩) (m2 + 1) d2]) (N1.out) (by intro b off e; first | (cases e; done) | (injection e with e; injection e with e; omega))
    have NY := nums_setRow (g := pb + 1) (cs := #[.string (str code), .slice (some ⟨g1, 0, none⟩) n1 d1, .int .i64 tick, .int .i64 low, .int .i64 high, .int .i64 wide, .int .i64 rule, .int .i64 top, .int .i64 least, .int .i64 part, .slice (some ⟨g2, 0, none⟩) (m2 + 1) d2]) (N2.out) (by intro b off e; first | (cases e; done) | (injection e with e; injection e with e; omega))
    replace NX := Lib.hid NX
    replace NY := Lib.hid NY
    have HQ := Lib.hid hq8
    go_wp2_with (refine wpList_store_row rfl 25 (.tmp 6) (.tmp 101) rfl (pb + 1) #[.string (str code), .slice (some ⟨g1, 0, none⟩) n1 d1, .int .i64 tick, .int .i64 low, .int .i64 high, .int .i64 wide, .int .i64 rule, .int .i64 top, .int .i64 least, .int .i64 part, .slice (some ⟨g2, 0, none⟩) (m2 + 1) d2] rfl rfl 25 #[.string (str []), .slice none 0 0, .int .i64 0, .int .i64 0, .int .i64 0, .int .i64 0, .int .i64 0, .int .i64 0, .int .i64 0, .int .i64 0, .slice none 0 0] HQ.out rfl rfl one.out ?_)
    (try simp only [Exit.inBlock, Exit.then])
    refine bodyPost_ret (results_cell_row rfl _ _ (pb + 1) 25 _ (0, 0) _ rfl (setRow_heap W8 (pb + 1) _ _ _ _ HQ.out) rfl rfl rfl) rfl ?_
    exact ⟨⟨code, some ⟨g1, 0, none⟩, n1, d1, tick, low, high, wide, rule, top, least, part, some ⟨g2, 0, none⟩, m2 + 1, d2, Q, _⟩, rfl, ⟨NX.out, NY.out, hco, cp1.1, cp1.2, cp2.1, cp2.2, ⟨ti1, ti2⟩, ⟨lo1, lo2⟩, ⟨hg1, hg2⟩, ⟨wi1, wi2⟩, ⟨ru1, ru2⟩, ⟨to1, to2⟩, ⟨le1, le2⟩, ⟨pa1, pa2⟩⟩, below_setRow HB8 (show w.heap.size ≤ pb + 1 by omega) _, by intro b off e; first | (cases e; done) | (injection e with e; injection e with e; omega), by intro b off e; first | (cases e; done) | (injection e with e; injection e with e; omega)⟩
  have t10 : (how == 10) = false := by simp; exact h10
  clear h10
  by_cases h11 : how = 11
  · have t11 : (how == 11) = true := by simp; exact h11
    clear h11
    obtain ⟨k0, k1, k2, k3, k4, k5, k6, k7, k8, k9, k10⟩ := row11 hl6.out
    obtain ⟨m2, rfl⟩ : ∃ m, n2 = m + 1 := ⟨n2 - 1, by omega⟩
    have z := frozen_of_row W7 pb 10 _ _ hl6.out
    by_cases hd : d2 = 1
    · have hm : m2 = 0 := by omega
      subst hm
      subst hd
      have N1 := Lib.hid (nums_setCell (a := ⟨pb, 10, none⟩) (v := .slice (some ⟨g2, 0, none⟩) 0 0) NM.out (by intro b off e; injection e with e; injection e with e; show b ≠ pb; omega))
      have hl8 : (W7.setCell ⟨pb, 10, none⟩ (.slice (some ⟨g2, 0, none⟩) 0 0)).heap[pb]? = some (.cells #[.string (str code), .slice (some ⟨g1, 0, none⟩) n1 d1, .int .i64 tick, .int .i64 low, .int .i64 high, .int .i64 wide, .int .i64 rule, .int .i64 top, .int .i64 least, .int .i64 part, .slice (some ⟨g2, 0, none⟩) 0 0] 25 (0, 0)) := heap_setCell_same W7 pb 10 _ _ (.slice (some ⟨g2, 0, none⟩) 0 0) hl6.out
      have hq8 := (heap_setCell_other W7 ⟨pb, 10, none⟩ (pb + 1) (.slice (some ⟨g2, 0, none⟩) 0 0) (show pb + 1 ≠ pb by omega)).trans hq6.out
      have HB8 := HB6.out.setCell (p := ⟨pb, 10, none⟩) (show w.heap.size ≤ pb from hpl) (.slice (some ⟨g2, 0, none⟩) 0 0)
      go_upto_region 32 with (fail)
      clear k0 k1 k2 k3 k4 k5 k6 k7 k8 k9 k10 z
      obtain ⟨W8, eW8⟩ : ∃ W, W7.setCell ⟨pb, 10, none⟩ (.slice (some ⟨g2, 0, none⟩) 0 0) = W := ⟨_, rfl⟩
      rw [eW8] at hl8 hq8 HB8 N1 ⊢
      clear eW8
      obtain ⟨k0, k1, k2, k3, k4, k5, k6, k7, k8, k9, k10⟩ := row11 hl8
      have one := Lib.hid (show (#[.string (str code), .slice (some ⟨g1, 0, none⟩) n1 d1, .int .i64 tick, .int .i64 low, .int .i64 high, .int .i64 wide, .int .i64 rule, .int .i64 top, .int .i64 least, .int .i64 part, .slice (some ⟨g2, 0, none⟩) 0 0] : Array Value).all (·.oneCell') = true from by simp [Value.oneCell'])
      have NX := nums_setRow (g := pb + 1) (cs := #[.string (str code), .slice (some ⟨g1, 0, none⟩) n1 d1, .int .i64 tick, .int .i64 low, .int .i64 high, .int .i64 wide, .int .i64 rule, .int .i64 top, .int .i64 least, .int .i64 part, .slice (some ⟨g2, 0, none⟩) 0 0]) (N1.out) (by intro b off e; first | (cases e; done) | (injection e with e; injection e with e; omega))
      have NY := nums_setRow (g := pb + 1) (cs := #[.string (str code), .slice (some ⟨g1, 0, none⟩) n1 d1, .int .i64 tick, .int .i64 low, .int .i64 high, .int .i64 wide, .int .i64 rule, .int .i64 top, .int .i64 least, .int .i64 part, .slice (some ⟨g2, 0, none⟩) 0 0]) (nums_none (w := W8) (N := R) (A := some ⟨g2, 0, none⟩)) (by intro b off e; first | (cases e; done) | (injection e with e; injection e with e; omega))
      replace NX := Lib.hid NX
      replace NY := Lib.hid NY
      have HQ := Lib.hid hq8
      go_wp2_with (refine wpList_store_row rfl 25 (.tmp 6) (.tmp 101) rfl (pb + 1) #[.string (str code), .slice (some ⟨g1, 0, none⟩) n1 d1, .int .i64 tick, .int .i64 low, .int .i64 high, .int .i64 wide, .int .i64 rule, .int .i64 top, .int .i64 least, .int .i64 part, .slice (some ⟨g2, 0, none⟩) 0 0] rfl rfl 25 #[.string (str []), .slice none 0 0, .int .i64 0, .int .i64 0, .int .i64 0, .int .i64 0, .int .i64 0, .int .i64 0, .int .i64 0, .int .i64 0, .slice none 0 0] HQ.out rfl rfl one.out ?_)
      (try simp only [Exit.inBlock, Exit.then])
      refine bodyPost_ret (results_cell_row rfl _ _ (pb + 1) 25 _ (0, 0) _ rfl (setRow_heap W8 (pb + 1) _ _ _ _ HQ.out) rfl rfl rfl) rfl ?_
      exact ⟨⟨code, some ⟨g1, 0, none⟩, n1, d1, tick, low, high, wide, rule, top, least, part, some ⟨g2, 0, none⟩, 0, 0, Q, R⟩, rfl, ⟨NX.out, NY.out, hco, cp1.1, cp1.2, Nat.le_refl _, (by show 0 ≤ _; omega), ⟨ti1, ti2⟩, ⟨lo1, lo2⟩, ⟨hg1, hg2⟩, ⟨wi1, wi2⟩, ⟨ru1, ru2⟩, ⟨to1, to2⟩, ⟨le1, le2⟩, ⟨pa1, pa2⟩⟩, below_setRow HB8 (show w.heap.size ≤ pb + 1 by omega) _, by intro b off e; first | (cases e; done) | (injection e with e; injection e with e; omega), by intro b off e; first | (cases e; done) | (injection e with e; injection e with e; omega)⟩
    · have hd2 : ¬ 1 = d2 := fun e => hd e.symm
      have d8 : 1 ≤ d2 := by omega
      have N2 := Lib.hid (nums_setCell (a := ⟨pb, 10, none⟩) (v := .slice (some ⟨g2, 1, none⟩) m2 (d2 - 1)) (nums_tail NS.out) (by intro b off e; injection e with e; injection e with e; show b ≠ pb; omega))
      have N1 := Lib.hid (nums_setCell (a := ⟨pb, 10, none⟩) (v := .slice (some ⟨g2, 1, none⟩) m2 (d2 - 1)) NM.out (by intro b off e; injection e with e; injection e with e; show b ≠ pb; omega))
      have hl8 : (W7.setCell ⟨pb, 10, none⟩ (.slice (some ⟨g2, 1, none⟩) m2 (d2 - 1))).heap[pb]? = some (.cells #[.string (str code), .slice (some ⟨g1, 0, none⟩) n1 d1, .int .i64 tick, .int .i64 low, .int .i64 high, .int .i64 wide, .int .i64 rule, .int .i64 top, .int .i64 least, .int .i64 part, .slice (some ⟨g2, 1, none⟩) m2 (d2 - 1)] 25 (0, 0)) := heap_setCell_same W7 pb 10 _ _ (.slice (some ⟨g2, 1, none⟩) m2 (d2 - 1)) hl6.out
      have hq8 := (heap_setCell_other W7 ⟨pb, 10, none⟩ (pb + 1) (.slice (some ⟨g2, 1, none⟩) m2 (d2 - 1)) (show pb + 1 ≠ pb by omega)).trans hq6.out
      have HB8 := HB6.out.setCell (p := ⟨pb, 10, none⟩) (show w.heap.size ≤ pb from hpl) (.slice (some ⟨g2, 1, none⟩) m2 (d2 - 1))
      go_upto_region 32 with (fail)
      clear k0 k1 k2 k3 k4 k5 k6 k7 k8 k9 k10 z
      obtain ⟨W8, eW8⟩ : ∃ W, W7.setCell ⟨pb, 10, none⟩ (.slice (some ⟨g2, 1, none⟩) m2 (d2 - 1)) = W := ⟨_, rfl⟩
      rw [eW8] at hl8 hq8 HB8 N1 N2 ⊢
      clear eW8
      obtain ⟨k0, k1, k2, k3, k4, k5, k6, k7, k8, k9, k10⟩ := row11 hl8
      have one := Lib.hid (show (#[.string (str code), .slice (some ⟨g1, 0, none⟩) n1 d1, .int .i64 tick, .int .i64 low, .int .i64 high, .int .i64 wide, .int .i64 rule, .int .i64 top, .int .i64 least, .int .i64 part, .slice (some ⟨g2, 1, none⟩) m2 (d2 - 1)] : Array Value).all (·.oneCell') = true from by simp [Value.oneCell'])
      have NX := nums_setRow (g := pb + 1) (cs := #[.string (str code), .slice (some ⟨g1, 0, none⟩) n1 d1, .int .i64 tick, .int .i64 low, .int .i64 high, .int .i64 wide, .int .i64 rule, .int .i64 top, .int .i64 least, .int .i64 part, .slice (some ⟨g2, 1, none⟩) m2 (d2 - 1)]) (N1.out) (by intro b off e; first | (cases e; done) | (injection e with e; injection e with e; omega))
      have NY := nums_setRow (g := pb + 1) (cs := #[.string (str code), .slice (some ⟨g1, 0, none⟩) n1 d1, .int .i64 tick, .int .i64 low, .int .i64 high, .int .i64 wide, .int .i64 rule, .int .i64 top, .int .i64 least, .int .i64 part, .slice (some ⟨g2, 1, none⟩) m2 (d2 - 1)]) (N2.out) (by intro b off e; first | (cases e; done) | (injection e with e; injection e with e; omega))
      replace NX := Lib.hid NX
      replace NY := Lib.hid NY
      have HQ := Lib.hid hq8
      go_wp2_with (refine wpList_store_row rfl 25 (.tmp 6) (.tmp 101) rfl (pb + 1) #[.string (str code), .slice (some ⟨g1, 0, none⟩) n1 d1, .int .i64 tick, .int .i64 low, .int .i64 high, .int .i64 wide, .int .i64 rule, .int .i64 top, .int .i64 least, .int .i64 part, .slice (some ⟨g2, 1, none⟩) m2 (d2 - 1)] rfl rfl 25 #[.string (str []), .slice none 0 0, .int .i64 0, .int .i64 0, .int .i64 0, .int .i64 0, .int .i64 0, .int .i64 0, .int .i64 0, .int .i64 0, .slice none 0 0] HQ.out rfl rfl one.out ?_)
      (try simp only [Exit.inBlock, Exit.then])
      refine bodyPost_ret (results_cell_row rfl _ _ (pb + 1) 25 _ (0, 0) _ rfl (setRow_heap W8 (pb + 1) _ _ _ _ HQ.out) rfl rfl rfl) rfl ?_
      exact ⟨⟨code, some ⟨g1, 0, none⟩, n1, d1, tick, low, high, wide, rule, top, least, part, some ⟨g2, 1, none⟩, m2, d2 - 1, Q, fun j => R (j + 1)⟩, rfl, ⟨NX.out, NY.out, hco, cp1.1, cp1.2, (by show m2 ≤ d2 - 1; omega), (by show d2 - 1 ≤ _; omega), ⟨ti1, ti2⟩, ⟨lo1, lo2⟩, ⟨hg1, hg2⟩, ⟨wi1, wi2⟩, ⟨ru1, ru2⟩, ⟨to1, to2⟩, ⟨le1, le2⟩, ⟨pa1, pa2⟩⟩, below_setRow HB8 (show w.heap.size ≤ pb + 1 by omega) _, by intro b off e; first | (cases e; done) | (injection e with e; injection e with e; omega), by intro b off e; first | (cases e; done) | (injection e with e; injection e with e; omega)⟩
  have t11 : (how == 11) = false := by simp; exact h11
  clear h11
  by_cases h12 : how = 12
  · have t12 : (how == 12) = true := by simp; exact h12
    clear h12
    obtain ⟨k0, k1, k2, k3, k4, k5, k6, k7, k8, k9, k10⟩ := row11 hl6.out
    have z := frozen_of_row W7 pb 1 _ _ hl6.out
    have d9 : 1 ≤ d1 := by omega
    have N1 := Lib.hid (nums_setCell (a := ⟨pb, 1, none⟩) (v := .slice (some ⟨g1, 0, none⟩) 1 d1) (nums_less NM.out (m := 1) (by omega)) (by intro b off e; injection e with e; injection e with e; show b ≠ pb; omega))
    have N2 := Lib.hid (nums_setCell (a := ⟨pb, 1, none⟩) (v := .slice (some ⟨g1, 0, none⟩) 1 d1) NS.out (by intro b off e; injection e with e; injection e with e; show b ≠ pb; omega))
    have hl8 : (W7.setCell ⟨pb, 1, none⟩ (.slice (some ⟨g1, 0, none⟩) 1 d1)).heap[pb]? = some (.cells #[.string (str code), .slice (some ⟨g1, 0, none⟩) 1 d1, .int .i64 tick, .int .i64 low, .int .i64 high, .int .i64 wide, .int .i64 rule, .int .i64 top, .int .i64 least, .int .i64 part, .slice (some ⟨g2, 0, none⟩) n2 d2] 25 (0, 0)) := heap_setCell_same W7 pb 1 _ _ (.slice (some ⟨g1, 0, none⟩) 1 d1) hl6.out
    have hq8 := (heap_setCell_other W7 ⟨pb, 1, none⟩ (pb + 1) (.slice (some ⟨g1, 0, none⟩) 1 d1) (show pb + 1 ≠ pb by omega)).trans hq6.out
    have HB8 := HB6.out.setCell (p := ⟨pb, 1, none⟩) (show w.heap.size ≤ pb from hpl) (.slice (some ⟨g1, 0, none⟩) 1 d1)
    go_upto_region 32 with (fail)
    clear k0 k1 k2 k3 k4 k5 k6 k7 k8 k9 k10 z
    obtain ⟨W8, eW8⟩ : ∃ W, W7.setCell ⟨pb, 1, none⟩ (.slice (some ⟨g1, 0, none⟩) 1 d1) = W := ⟨_, rfl⟩
    rw [eW8] at hl8 hq8 HB8 N1 N2 ⊢
    clear eW8
    obtain ⟨k0, k1, k2, k3, k4, k5, k6, k7, k8, k9, k10⟩ := row11 hl8
    have one := Lib.hid (show (#[.string (str code), .slice (some ⟨g1, 0, none⟩) 1 d1, .int .i64 tick, .int .i64 low, .int .i64 high, .int .i64 wide, .int .i64 rule, .int .i64 top, .int .i64 least, .int .i64 part, .slice (some ⟨g2, 0, none⟩) n2 d2] : Array Value).all (·.oneCell') = true from by simp [Value.oneCell'])
    have NX := nums_setRow (g := pb + 1) (cs := #[.string (str code), .slice (some ⟨g1, 0, none⟩) 1 d1, .int .i64 tick, .int .i64 low, .int .i64 high, .int .i64 wide, .int .i64 rule, .int .i64 top, .int .i64 least, .int .i64 part, .slice (some ⟨g2, 0, none⟩) n2 d2]) (N1.out) (by intro b off e; first | (cases e; done) | (injection e with e; injection e with e; omega))
    have NY := nums_setRow (g := pb + 1) (cs := #[.string (str code), .slice (some ⟨g1, 0, none⟩) 1 d1, .int .i64 tick, .int .i64 low, .int .i64 high, .int .i64 wide, .int .i64 rule, .int .i64 top, .int .i64 least, .int .i64 part, .slice (some ⟨g2, 0, none⟩) n2 d2]) (N2.out) (by intro b off e; first | (cases e; done) | (injection e with e; injection e with e; omega))
    replace NX := Lib.hid NX
    replace NY := Lib.hid NY
    have HQ := Lib.hid hq8
    go_wp2_with (refine wpList_store_row rfl 25 (.tmp 6) (.tmp 101) rfl (pb + 1) #[.string (str code), .slice (some ⟨g1, 0, none⟩) 1 d1, .int .i64 tick, .int .i64 low, .int .i64 high, .int .i64 wide, .int .i64 rule, .int .i64 top, .int .i64 least, .int .i64 part, .slice (some ⟨g2, 0, none⟩) n2 d2] rfl rfl 25 #[.string (str []), .slice none 0 0, .int .i64 0, .int .i64 0, .int .i64 0, .int .i64 0, .int .i64 0, .int .i64 0, .int .i64 0, .int .i64 0, .slice none 0 0] HQ.out rfl rfl one.out ?_)
    (try simp only [Exit.inBlock, Exit.then])
    refine bodyPost_ret (results_cell_row rfl _ _ (pb + 1) 25 _ (0, 0) _ rfl (setRow_heap W8 (pb + 1) _ _ _ _ HQ.out) rfl rfl rfl) rfl ?_
    exact ⟨⟨code, some ⟨g1, 0, none⟩, 1, d1, tick, low, high, wide, rule, top, least, part, some ⟨g2, 0, none⟩, n2, d2, Q, R⟩, rfl, ⟨NX.out, NY.out, hco, (by show 1 ≤ d1; omega), cp1.2, cp2.1, cp2.2, ⟨ti1, ti2⟩, ⟨lo1, lo2⟩, ⟨hg1, hg2⟩, ⟨wi1, wi2⟩, ⟨ru1, ru2⟩, ⟨to1, to2⟩, ⟨le1, le2⟩, ⟨pa1, pa2⟩⟩, below_setRow HB8 (show w.heap.size ≤ pb + 1 by omega) _, by intro b off e; first | (cases e; done) | (injection e with e; injection e with e; omega), by intro b off e; first | (cases e; done) | (injection e with e; injection e with e; omega)⟩
  have t12 : (how == 12) = false := by simp; exact h12
  clear h12
  by_cases h13 : how = 13
  · have t13 : (how == 13) = true := by simp; exact h13
    clear h13
    obtain ⟨k0, k1, k2, k3, k4, k5, k6, k7, k8, k9, k10⟩ := row11 hl6.out
    obtain ⟨m1, rfl⟩ : ∃ m, n1 = m + 1 := ⟨n1 - 1, by omega⟩
    obtain ⟨gb, go, ge, z1, z2, z3⟩ := NM.out m1 (by omega)
    injection ge with ge; injection ge with ge1 ge2; subst ge1; subst ge2
    rw [Nat.zero_add] at z1
    have d0 : (m1 : Int) < ((m1 + 1 : Nat) : Int) := by omega
    have d9 : m1 < m1 + 1 := by omega
    have q1 : IntKind.i64.wrap (m1 : Int) = (m1 : Int) := wrap_in (by omega) (by omega)
    have d7 : (m1 : Int) < (m1 : Int) + 1 := by omega
    go_upto_region 31 with (fail)
    have hw0 : W7.drew.cell? ⟨pb, 1, none⟩ = some (.slice (some ⟨g1, 0, none⟩) (m1 + 1) d1) := k1
    have hw1 : W7.drew.cell? ⟨g1, m1, none⟩ = some (.int .i64 (Q m1)) := z1
    have hw2 : (W7.alloc (.cells #[.int .i64 (Q m1)] 3)).cell? ⟨pb, 1, none⟩ = some (.slice (some ⟨g1, 0, none⟩) (m1 + 1) d1) := (World.cell?_of_block (a := ⟨pb, 1, none⟩) (heap_alloc_old W7 _ (show pb < W7.heap.size by omega))).trans k1
    have hlA := Lib.hid (show ((W7.alloc (.cells #[.int .i64 (Q m1)] 3)).drew).heap[pb]? = _ from (heap_alloc_old W7 _ (show pb < W7.heap.size by omega)).trans hl6.out)
    have hqA := Lib.hid (show ((W7.alloc (.cells #[.int .i64 (Q m1)] 3)).drew).heap[pb + 1]? = _ from (heap_alloc_old W7 _ (show pb + 1 < W7.heap.size by omega)).trans hq6.out)
    have HBA := Lib.hid ((HB6.out.alloc HB6.out.size (.cells #[.int .i64 (Q m1)] 3)).drew)
    have R2A := Lib.hid ((R26.out.alloc (.cells #[.int .i64 (Q m1)] 3)).drew)
    have hsB := Lib.hid (show W7.heap.size + 1 = ((W7.alloc (.cells #[.int .i64 (Q m1)] 3)).drew).heap.size from by simp)
    have hsA := Lib.hid (show pb + 2 ≤ ((W7.alloc (.cells #[.int .i64 (Q m1)] 3)).drew).heap.size from by simp; omega)
    have ow := Lib.hid (show ∀ k, Value.ownBlock (.slice (some ⟨g1, 0, none⟩) (m1 + 1) d1) = some k → pb + 2 ≤ k from fun k hk => by have hk2 : some g1 = some k := hk; injection hk2 with hk2; omega)
    have sep := Lib.hid (show ∀ k, Value.ownBlock (.slice (some ⟨g1, 0, none⟩) (m1 + 1) d1) = some k → Value.ownBlock (.slice (some ⟨g2, 0, none⟩) n2 d2) ≠ some k from fun k hk e => by
      have hk2 : some g1 = some k := hk
      have e2 : some g2 = some k := e
      injection hk2 with hk2
      injection e2 with e2
      exact hng (hk2.trans e2.symm))
    go_region_law (refine step_append_lies _ (by rfl) (.tmp 89) (.tmp 98) 22 (by rfl) (pb + 2) 3 i0 (.int .i64 0) 1 8 Try.underlying22 hi0 hz0 hz1 hz2 rfl (by decide) (.slice (some ⟨g1, 0, none⟩) (m1 + 1) d1) (m1 + 1) _ (by rfl) ((R16.out.alloc _).drew) ⟨W7.heap.size, 0, none⟩ 1 1 [.int .i64 (Q m1)] (by rfl) (by rfl) (cell_one_new W7 _ _) (ints_oneCell .i64 [Q m1]) (by omega) (by unfold maxLen; omega) (by omega) (by simp; omega) (W7.heap.size + 1) (by simp) ?_; intro g cap w4 hown4 hg4 hat4 hlt4; have PP := push2 (v1 := .slice (some ⟨g1, 0, none⟩) (m1 + 1) d1) 1 hlA.out hqA.out HBA.out hpl (show pb < pb + 2 by omega) (show pb + 1 < pb + 2 by omega) (by omega) hsA.out ow.out R2A.out sep.out hown4 hg4 (hat4.imp id (fun e => e.trans hsB.out)); have c5 : w4.cell? ⟨pb, 1, none⟩ = some (.slice (some ⟨g1, 0, none⟩) (m1 + 1) d1) := PP.1.1; have f5 := PP.1.2; have PQ := Lib.hid PP; clear PP; clear hown4 hg4 hat4)
    all_goals
      obtain ⟨-, hl8, hq8, HB8, R18, R28, -, -⟩ := PQ.out
      have RR := R18
      rw [list_snoc] at RR
      have cp3 := own_cap RR
      have lt3 := World.ownsRow.lt RR g rfl
      have bq : ∀ j, j < m1 + 1 + 1 → I64 (if j < m1 + 1 then Q j else Q m1) := fun j hj => by
        split
        · exact nums_I64 NM.out j (by omega)
        · exact ⟨z2, z3⟩
      have N1 := Lib.hid (nums_own (N := fun j => if j < m1 + 1 then Q j else Q m1) RR bq)
      have N2 := Lib.hid (nums_own R28 (nums_I64 NS.out))
      clear hw0 hw1 hw2 hlA hqA HBA R2A hsB hsA ow sep PQ c5 f5 k0 k1 k2 k3 k4 k5 k6 k7 k8 k9 k10 z1 RR R18 R28
      go_upto_region 32 with (fail)
      obtain ⟨W8, eW8⟩ : ∃ W, w4.setCell ⟨pb, 1, none⟩ (.slice (some ⟨g, 0, none⟩) (m1 + 1 + 1) cap) = W := ⟨_, rfl⟩
      rw [eW8] at hl8 hq8 HB8 N1 N2 ⊢
      clear eW8
      obtain ⟨k0, k1, k2, k3, k4, k5, k6, k7, k8, k9, k10⟩ := row11 hl8
      have one := Lib.hid (show (#[.string (str code), .slice (some ⟨g, 0, none⟩) (m1 + 1 + 1) cap, .int .i64 tick, .int .i64 low, .int .i64 high, .int .i64 wide, .int .i64 rule, .int .i64 top, .int .i64 least, .int .i64 part, .slice (some ⟨g2, 0, none⟩) n2 d2] : Array Value).all (·.oneCell') = true from by simp [Value.oneCell'])
      have NX := nums_setRow (g := pb + 1) (cs := #[.string (str code), .slice (some ⟨g, 0, none⟩) (m1 + 1 + 1) cap, .int .i64 tick, .int .i64 low, .int .i64 high, .int .i64 wide, .int .i64 rule, .int .i64 top, .int .i64 least, .int .i64 part, .slice (some ⟨g2, 0, none⟩) n2 d2]) (N1.out) (by intro b off e; first | (cases e; done) | (injection e with e; injection e with e; omega))
      have NY := nums_setRow (g := pb + 1) (cs := #[.string (str code), .slice (some ⟨g, 0, none⟩) (m1 + 1 + 1) cap, .int .i64 tick, .int .i64 low, .int .i64 high, .int .i64 wide, .int .i64 rule, .int .i64 top, .int .i64 least, .int .i64 part, .slice (some ⟨g2, 0, none⟩) n2 d2]) (N2.out) (by intro b off e; first | (cases e; done) | (injection e with e; injection e with e; omega))
      replace NX := Lib.hid NX
      replace NY := Lib.hid NY
      have HQ := Lib.hid hq8
      go_wp2_with (refine wpList_store_row rfl 25 (.tmp 6) (.tmp 101) rfl (pb + 1) #[.string (str code), .slice (some ⟨g, 0, none⟩) (m1 + 1 + 1) cap, .int .i64 tick, .int .i64 low, .int .i64 high, .int .i64 wide, .int .i64 rule, .int .i64 top, .int .i64 least, .int .i64 part, .slice (some ⟨g2, 0, none⟩) n2 d2] rfl rfl 25 #[.string (str []), .slice none 0 0, .int .i64 0, .int .i64 0, .int .i64 0, .int .i64 0, .int .i64 0, .int .i64 0, .int .i64 0, .int .i64 0, .slice none 0 0] HQ.out rfl rfl one.out ?_)
      (try simp only [Exit.inBlock, Exit.then])
      refine bodyPost_ret (results_cell_row rfl _ _ (pb + 1) 25 _ (0, 0) _ rfl (setRow_heap W8 (pb + 1) _ _ _ _ HQ.out) rfl rfl rfl) rfl ?_
      exact ⟨⟨code, some ⟨g, 0, none⟩, m1 + 1 + 1, cap, tick, low, high, wide, rule, top, least, part, some ⟨g2, 0, none⟩, n2, d2, _, R⟩, rfl, ⟨NX.out, NY.out, hco, cp3.1, cp3.2, cp2.1, cp2.2, ⟨ti1, ti2⟩, ⟨lo1, lo2⟩, ⟨hg1, hg2⟩, ⟨wi1, wi2⟩, ⟨ru1, ru2⟩, ⟨to1, to2⟩, ⟨le1, le2⟩, ⟨pa1, pa2⟩⟩, below_setRow HB8 (show w.heap.size ≤ pb + 1 by omega) _, by intro b off e; first | (cases e; done) | (injection e with e; injection e with e; omega), by intro b off e; first | (cases e; done) | (injection e with e; injection e with e; omega)⟩
  have t13 : (how == 13) = false := by simp; exact h13
  clear h13
  go_upto_region 32 with (fail)
  obtain ⟨k0, k1, k2, k3, k4, k5, k6, k7, k8, k9, k10⟩ := row11 hl6.out
  have one := Lib.hid (show (#[.string (str code), .slice (some ⟨g1, 0, none⟩) n1 d1, .int .i64 tick, .int .i64 low, .int .i64 high, .int .i64 wide, .int .i64 rule, .int .i64 top, .int .i64 least, .int .i64 part, .slice (some ⟨g2, 0, none⟩) n2 d2] : Array Value).all (·.oneCell') = true from by simp [Value.oneCell'])
  have NX := nums_setRow (g := pb + 1) (cs := #[.string (str code), .slice (some ⟨g1, 0, none⟩) n1 d1, .int .i64 tick, .int .i64 low, .int .i64 high, .int .i64 wide, .int .i64 rule, .int .i64 top, .int .i64 least, .int .i64 part, .slice (some ⟨g2, 0, none⟩) n2 d2]) (NM.out) (by intro b off e; first | (cases e; done) | (injection e with e; injection e with e; omega))
  have NY := nums_setRow (g := pb + 1) (cs := #[.string (str code), .slice (some ⟨g1, 0, none⟩) n1 d1, .int .i64 tick, .int .i64 low, .int .i64 high, .int .i64 wide, .int .i64 rule, .int .i64 top, .int .i64 least, .int .i64 part, .slice (some ⟨g2, 0, none⟩) n2 d2]) (NS.out) (by intro b off e; first | (cases e; done) | (injection e with e; injection e with e; omega))
  replace NX := Lib.hid NX
  replace NY := Lib.hid NY
  have HQ := Lib.hid hq6.out
  go_wp2_with (refine wpList_store_row rfl 25 (.tmp 6) (.tmp 101) rfl (pb + 1) #[.string (str code), .slice (some ⟨g1, 0, none⟩) n1 d1, .int .i64 tick, .int .i64 low, .int .i64 high, .int .i64 wide, .int .i64 rule, .int .i64 top, .int .i64 least, .int .i64 part, .slice (some ⟨g2, 0, none⟩) n2 d2] rfl rfl 25 #[.string (str []), .slice none 0 0, .int .i64 0, .int .i64 0, .int .i64 0, .int .i64 0, .int .i64 0, .int .i64 0, .int .i64 0, .int .i64 0, .slice none 0 0] HQ.out rfl rfl one.out ?_)
  (try simp only [Exit.inBlock, Exit.then])
  refine bodyPost_ret (results_cell_row rfl _ _ (pb + 1) 25 _ (0, 0) _ rfl (setRow_heap W7 (pb + 1) _ _ _ _ HQ.out) rfl rfl rfl) rfl ?_
  exact ⟨⟨code, some ⟨g1, 0, none⟩, n1, d1, tick, low, high, wide, rule, top, least, part, some ⟨g2, 0, none⟩, n2, d2, Q, R⟩, rfl, ⟨NX.out, NY.out, hco, cp1.1, cp1.2, cp2.1, cp2.2, ⟨ti1, ti2⟩, ⟨lo1, lo2⟩, ⟨hg1, hg2⟩, ⟨wi1, wi2⟩, ⟨ru1, ru2⟩, ⟨to1, to2⟩, ⟨le1, le2⟩, ⟨pa1, pa2⟩⟩, below_setRow HB6.out (show w.heap.size ≤ pb + 1 by omega) _, by intro b off e; first | (cases e; done) | (injection e with e; injection e with e; omega), by intro b off e; first | (cases e; done) | (injection e with e; injection e with e; omega)⟩
theorem Turned_any (p : PD) (how n : Int) (w : World) (h : Hid (p.Ok w)) (hh : I64 how) (hn : I64 n) (b1 : 1 ≤ p.n1) (b2 : 1 ≤ p.n2) (b3 : p.n1 ≤ 1000000) (b4 : p.n2 ≤ 1000000) :
    Calls Try.prog 11 #[p.val, .int .i64 how, .int .i64 n] w fun e w' => ∃ p' : PD, e = .returned p'.val ∧ p'.Ok w' ∧ Below w.heap.size w w' :=
  (Turned_at p how n w h hh hn b1 b2 b3 b4).mono fun e w' ⟨p', h1, h2, h3, _, _⟩ => ⟨p', h1, h2, h3⟩
end Go.Proofs.Ytbigmbpclikenaa
