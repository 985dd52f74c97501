/-
  Contract: appendOrders, of book.
-/
import Derived.Test.YtlknlicokacoiaaBkLevel
namespace Go.Proofs.Ytlknlicokacoiaa
open Go.RowKit
set_option linter.unusedVariables false
set_option linter.unusedSimpArgs false

theorem info_order : (Try.prog.info? 40).map (fun i => (i.zero, i.size, i.bytes)) = some (some (.agg #[.int .i64 0, .int .i64 0, .int .i64 0, .int .i64 0, .bool false]), 5, 40) := by kernel_rfl
def AppPost (D : Nat) (L : List Or) (w : World) (e : Ending) (w' : World) : Prop := ∃ v', e = .returned v' ∧ Own fO 40 w' D v' L ∧ Below D w w'
theorem hv_oneO {w : World} {h : Nat} {T : TypeId} {x : Or} (hh : w.heap[h]? = some (.cells x.cells T (0, 0))) : HV fO w (some ⟨h, 0, none⟩) 1 [x] := by
  refine ⟨rfl, fun j y hy => ⟨h, 0, rfl, fun m u hu => ?_⟩⟩
  have hj : j = 0 := by have := (List.getElem?_eq_some_iff.1 hy).1; simpa using this
  subst hj
  simp at hy; subst hy
  rw [Nat.zero_mul, Nat.zero_add, Lib.cell_of_heap hh, ← hu]
  match m with
  | 0 => rfl
  | 1 => rfl
  | 2 => rfl
  | 3 => rfl
  | 4 => rfl
  | m + 5 => rfl
theorem rowO_take {st : St} {s : Int} {r : Int × Nat} {j : Nat} {e : En} (h : (lq st r.2)[j]? = some e) : (rowO st s r).take (j + 1) = (rowO st s r).take j ++ [ordE s r.1 e] := by
  rw [List.take_add_one]
  congr 1
  unfold rowO
  rw [List.getElem?_map, h]; rfl
set_option maxRecDepth 100000 in
set_option maxHeartbeats 4000000 in
theorem App_any (B b a : Nat) (F : Nat → Prop) (V : Nat → Value) (vs : Value) (c : Cs) (D : Nat) (v : Value) (L0 : List Or) (s : Nat) (r : Int × Nat) (w : World) (hW : Hid (Wb B b a F V vs c w)) (hC : Hid (∀ e ∈ lq c.st r.2, c.T[e.s]? = some ((s : Int), r.1))) (hlow : Hid (∀ k, wfoot b F V vs k → k < D)) (hD : Hid (D ≤ w.heap.size)) (hO : Hid (Own fO 40 w D v L0)) (hn : Hid (L0.length + (lq c.st r.2).length ≤ 100000)) (hQ : c.st.Q.length ≤ 1000000) :
    Calls Try.prog 47 #[.pointer (some ⟨b, 0, none⟩), v, rowVal r] w (AppPost D (L0 ++ rowO c.st s r) w) := by
  obtain ⟨i0, hi0, hz0, hz1, hz2⟩ := info_parts info_order
  obtain ⟨p, q⟩ := r
  obtain ⟨W0, eW0⟩ : ∃ W, w.alloc (.cells #[.int .i64 p, .int .i64 (q : Int)] 86) = W := ⟨_, rfl⟩
  obtain ⟨g, eg⟩ : ∃ g, w.heap.size = g := ⟨_, rfl⟩
  have b0 : Below w.heap.size w W0 := by rw [← eW0]; exact (Below.refl _ w).alloc (Nat.le_refl _) _
  have hg : W0.heap[g]? = some (.cells #[.int .i64 p, .int .i64 (q : Int)] 86 (0, 0)) := by rw [← eW0, ← eg]; exact heap_alloc_new w _
  have hW0 := Lib.hid (hW.out.below b0)
  obtain ⟨x0, -⟩ := hW0.out.bm.arena
  obtain ⟨⟨d0, d1⟩, -⟩ := row2 hg
  have hbl := (hW0.out.lt (k := b) (.inr (.inl rfl))).2
  have hgl := (Array.getElem?_eq_some_iff.1 hg).1
  have HL := Lib.hid (List_any B a F c.st (q : Int) W0.drew (Lib.hid (hW0.out.ar.below ⟨rfl, rfl, rfl, Nat.le_refl _, fun _ _ => rfl⟩)) hQ)
  rw [listO_nat] at HL
  have hw0 : (fun W : World => W.cell? ⟨b, 0, none⟩ = some (.pointer (some ⟨a, 0, none⟩)) ∧ W.cell? ⟨g, 1, none⟩ = some (.int .i64 (q : Int))) W0.drew := ⟨x0, d1⟩
  have LL : Hid (∀ X, Below W0.drew.heap.size W0.drew X → (fun W : World => W.cell? ⟨b, 0, none⟩ = some (.pointer (some ⟨a, 0, none⟩)) ∧ W.cell? ⟨g, 1, none⟩ = some (.int .i64 (q : Int))) X) := Lib.hid (fun X h =>
    ⟨(World.cell?_of_block (a := ⟨b, 0, none⟩) (h.block b hbl)).trans x0, (World.cell?_of_block (a := ⟨g, 1, none⟩) (h.block g hgl)).trans d1⟩)
  replace eW0 := Lib.hid eW0
  replace eg := Lib.hid eg
  replace b0 := Lib.hid b0
  clear hbl hgl hg
  show Calls Try.prog _ #[_, _, .agg #[.int .i64 p, .int .i64 (q : Int)]] _ _
  go_enter Try.func47, Try.ntmps47
  go_upto_region 1 with (fail)
  rw [eW0.out, eg.out]
  go_region_held3 (fun W : World => W.cell? ⟨b, 0, none⟩ = some (.pointer (some ⟨a, 0, none⟩)) ∧ W.cell? ⟨g, 1, none⟩ = some (.int .i64 (q : Int))) (first | with_reducible assumption | with_reducible exact hw0 | with_reducible exact z1) ((go_at_call 54; refine HL.out.mono ?_; rintro e w1 ⟨vl, rfl, rl, bl⟩; have z1 := LL.out w1 bl; obtain ⟨A1, cap1, evl, hE1, hc1, hc2, hA1⟩ := rl.slice; subst evl; replace rl := Lib.hid rl; replace bl := Lib.hid bl; replace hE1 := Lib.hid hE1; replace hA1 := Lib.hid hA1))
  have bl' : Below W0.heap.size W0 w1 := ⟨bl.out.os, bl.out.tape, bl.out.output, bl.out.size, bl.out.block⟩
  have bw1 : Below w.heap.size w w1 := b0.out.trans (bl'.mono b0.out.size)
  clear bl'
  have O1 : Hid (Own fO 40 w1 D v L0) := Lib.hid (hO.out.below bw1)
  have hvl : Hid (∀ k, v.ownBlock = some k → D ≤ k ∧ k < w.heap.size) := Lib.hid (fun k hk => hO.out.lt k hk)
  have bW : Hid (Below w.heap.size w w1) := Lib.hid bw1
  have hs1 : Hid (w.heap.size ≤ W0.drew.heap.size ∧ W0.drew.heap.size ≤ w1.heap.size) := Lib.hid ⟨b0.out.size, bl.out.size⟩
  obtain ⟨n, en⟩ : ∃ n, (lq c.st q).length = n := ⟨_, rfl⟩
  rw [en] at hE1 hc1 hn ⊢
  obtain ⟨H2, eH2⟩ : ∃ n, w1.heap.size = n := ⟨_, rfl⟩
  have hn1 : n ≤ 100000 := by have := hn.out; omega
  have rel0 : Hid (Only (fun k => v.ownBlock = some k ∨ H2 ≤ k) w1 w1) := Lib.hid (Only.refl _ _)
  have start : Hid (Own fO 40 w1 D v (L0 ++ (rowO c.st s (p, q)).take 0)) := Lib.hid (by rw [List.take_zero, List.append_nil]; exact O1.out)
  have hrl : Hid ((rowO c.st s (p, q)).length = n) := Lib.hid (by unfold rowO; rw [List.length_map]; exact en)
  replace en := Lib.hid en
  replace eH2 := Lib.hid eH2
  clear bw1 z1 hw0 x0 d0 d1 LL HL O1
  go_wp2_with fail
  go_loopw [1, 17] (fun v' i wr => ∃ j : Nat, i = .int .i64 j ∧ j ≤ n ∧ Hid (Own fO 40 wr D v' (L0 ++ (rowO c.st s (p, q)).take j)) ∧ Hid (Only (fun k => v.ownBlock = some k ∨ H2 ≤ k) w1 wr) ∧ Hid (∀ k, v'.ownBlock = some k → v.ownBlock = some k ∨ H2 ≤ k)) (fun _ i _ => (n - intOf i).toNat)
  case atStart => exact ⟨0, rfl, by omega, start, rel0, Lib.hid (fun k hk => .inl hk)⟩
  case round =>
    clear start rel0
    obtain ⟨j, rfl, hj, hOw, hOn, hbk⟩ := hrel
    have bwr : Hid (Below D w wr) := Lib.hid (((bW.out.mono hD.out)).trans (hOn.out.below (by have := hs1.out; have := hD.out; omega) (fun k hk e => by
      rcases e with e | e
      · have := hvl.out k e; omega
      · have := hs1.out; have := eH2.out; have := hD.out; omega)))
    by_cases hlt : j < n
    · obtain ⟨e, he⟩ : ∃ e, (lq c.st q)[j]? = some e := ⟨_, List.getElem?_eq_getElem (by rw [en.out]; exact hlt)⟩
      have htk := Lib.hid (rowO_take (st := c.st) (s := (s : Int)) (r := (p, q)) he)
      obtain ⟨lb, off, eA, c0, c1, c2, c3⟩ := hE1.out.2 j e he
      have hlb := hA1.out _ eA
      obtain ⟨s1, s2⟩ := hs1.out
      have hkeep : wr.heap[lb]? = w1.heap[lb]? := hOn.out.block lb hlb.2.2.2 (fun e => by
        rcases e with e | e
        · have := (hvl.out lb e).2; have h3 : W0.drew.heap.size ≤ lb := hlb.2.2.1; omega
        · have h3 : lb < w1.heap.size := hlb.2.2.2; have := eH2.out; omega)
      have ck : ∀ m u, w1.cell? ⟨lb, m, none⟩ = some u → wr.cell? ⟨lb, m, none⟩ = some u := fun m u h => (World.cell?_of_block (a := ⟨lb, m, none⟩) hkeep).trans h
      have c0' := ck _ _ c0
      have c1' := ck _ _ c1
      have c2' := ck _ _ c2
      have c3' := ck _ _ c3
      have hT := hC.out e (List.mem_iff_getElem?.2 ⟨j, he⟩)
      replace hT := Lib.hid hT
      obtain ⟨es, ei, en', et⟩ := e
      simp only at c0' c1' c2' c3'
      replace he := Lib.hid he
      subst eA
      clear c0 c1 c2 c3 ck hkeep hlb
      obtain ⟨W3, eW3⟩ : ∃ W, wr.alloc (.cells #[.int .i64 (es : Int), .int .i64 ei, .int .i64 en', .bool et] 90) = W := ⟨_, rfl⟩
      have b3 : Below wr.heap.size wr W3 := by rw [← eW3]; exact (Below.refl _ wr).alloc (Nat.le_refl _) _
      have hDr : D ≤ wr.heap.size := by have := bwr.out.size; have := hD.out; omega
      have B3 : Hid (Below D w W3) := Lib.hid (bwr.out.trans (b3.mono hDr))
      have hB3 := Lib.hid ((hW.out.after B3.out hlow.out).bm)
      have HO := Lib.hid (Order_any b a V vs c.R c.T c.S ⟨es, ei, en', et⟩ ((s : Int), p) W3 hB3 hT.out)
      have hO3 := Lib.hid (hOw.out.below b3)
      have hu1 := Lib.hid (fun k (hk : u1.ownBlock = some k) => hOw.out.lt k hk)
      have on3 : Hid (Only (fun k => v.ownBlock = some k ∨ H2 ≤ k) w1 W3) := Lib.hid (hOn.out.step (only_below b3) (fun _ _ e => e.elim))
      replace b3 := Lib.hid b3
      obtain ⟨⟨q0, q1, q2, q3⟩, -⟩ := row4 (show W3.heap[wr.heap.size]? = some (.cells #[.int .i64 (es : Int), .int .i64 ei, .int .i64 en', .bool et] 90 (0, 0)) by rw [← eW3]; exact heap_alloc_new wr _)
      clear hOw hOn bwr
      go_wp2_with fail
      refine HO.out.mono ?_
      rintro e w4 ⟨rfl, b4⟩
      clear q0 q1 q2 q3
      obtain ⟨W5, eW5⟩ : ∃ W, w4.alloc (.cells (Or.cells ⟨ei, (s : Int), p, en', et⟩) 40) = W := ⟨_, rfl⟩
      have b5 : Below W3.heap.size W3 W5 := by rw [← eW5]; exact b4.alloc b4.size _
      have hDr3 : D ≤ W3.heap.size := by have := b3.out.size; omega
      have hO5 := Lib.hid (hO3.out.below b5)
      have hv5 : Hid (HV fO W5 (some ⟨w4.heap.size, 0, none⟩) 1 [⟨ei, (s : Int), p, en', et⟩]) := Lib.hid (hv_oneO (by rw [← eW5]; exact heap_alloc_new w4 _))
      have on5 : Hid (Only (fun k => v.ownBlock = some k ∨ H2 ≤ k) w1 W5) := Lib.hid (on3.out.step (only_below b5) (fun _ _ e => e.elim))
      have hD5 : Hid (D ≤ W5.heap.size) := Lib.hid (by have := b5.size; omega)
      have hlen : (L0 ++ (rowO c.st s (p, q)).take j).length + 1 ≤ 1000000 := by rw [List.length_append, List.length_take]; have := hn.out; omega
      replace b4 := Lib.hid b4
      replace b5 := Lib.hid b5
      replace hDr3 := Lib.hid hDr3
      replace hDr := Lib.hid hDr
      simp only [Or.val, Or.cells]
      simp only [Or.cells] at eW5
      clear hO3 on3 hB3 HO eW3
      go_wp2_with (at_builtin; refine wpList_onto_g (fm := fO) (T := 40) rfl (.tmp 21) (.tmp 25) 48 rfl D i0 (.agg #[.int .i64 0, .int .i64 0, .int .i64 0, .int .i64 0, .bool false]) 40 Try.underlying48 hi0 hz0 hz1 hz2 rfl (by decide) u1 _ rfl hO5.out (some ⟨w4.heap.size, 0, none⟩) 1 1 [⟨ei, (s : Int), p, en', et⟩] rfl hv5.out (fun e => by cases e) hlen hD5.out ?_)
      intro v6 w6 o6 g6 k6
      have o7 : Hid (Own fO 40 w6 D v6 (L0 ++ (rowO c.st s (p, q)).take (j + 1))) := Lib.hid (by
        rw [htk.out]; exact o6)
      have on6 : Hid (Only (fun k => v.ownBlock = some k ∨ H2 ≤ k) w1 w6) := Lib.hid (on5.out.step (only_grown g6) (fun i _ e => hbk.out i e.symm))
      have hbk6 : Hid (∀ k, v6.ownBlock = some k → v.ownBlock = some k ∨ H2 ≤ k) := Lib.hid (fun k hk => by
        rcases k6 with e | e
        · exact hbk.out k (e ▸ hk)
        · rw [e] at hk
          have hk' : W5.heap.size = k := by injection hk
          have := on5.out.size
          have := eH2.out
          right; omega)
      clear o6 g6 k6 hO5 on5 hv5 hbk eW5
      go_wp2_with fail
      go_roundw
      case rel => exact ⟨j + 1, by go_num, by omega, o7, on6, hbk6⟩
      case measure => simp [intOf]; omega
    · obtain rfl : j = n := by omega
      have hfin : Hid (Own fO 40 wr D u1 (L0 ++ rowO c.st s (p, q))) := Lib.hid (by
        have := hOw.out
        rwa [List.take_of_length_le (by rw [hrl.out]; exact Nat.le_refl _)] at this)
      clear hOw
      go_wp2_with fail
      go_ret
      exact ⟨_, rfl, hfin.out, bwr.out⟩
end Go.Proofs.Ytlknlicokacoiaa
