/-
  Contracts: Ladder, Best, of cornhillref9.
-/
import Derived.Test.YtlknlicokacoiaaRBk
namespace Go.Proofs.Ytlknlicokacoiaa
open Go.RowKit
set_option linter.unusedVariables false
set_option linter.unusedSimpArgs false

theorem info_rlevel : (Try.prog.info? 72).map (fun i => (i.zero, i.size, i.bytes)) = some (some (.agg #[.int .i64 0, .int .i64 0, .int .i64 0]), 3, 24) := by kernel_rfl
def RLPost (D : Nat) (L : List Lv) (w : World) (e : Ending) (w' : World) : Prop := ∃ v', e = .returned v' ∧ Own fL 72 w' D v' L ∧ Below D w w'
theorem Own.set {α : Type} {fm : Fmt α} {T : TypeId} {w : World} {base g n cap : Nat} {l : List α} (h : Own fm T w base (.slice (some ⟨g, 0, none⟩) n cap) l) {j m : Nat} {x x' : α} {v : Value} (hj : l[j]? = some x) (hm : m < fm.k) (hr : fm.f x' = (fm.f x).set m v) : Own fm T (w.setCell ⟨g, j * fm.k + m, none⟩ v) base (.slice (some ⟨g, 0, none⟩) n cap) (l.set j x') := by
  have hl : (l.set j x').length = l.length := List.length_set
  refine ⟨rowsG_len _, ?_⟩
  rcases h.2 with ⟨e0, _⟩ | ⟨g', cap', cur, e0, b1, b2, b3, b4, b5, b6⟩
  · cases e0
  · injection e0 with e1 e2 e3
    injection e1 with e1
    injection e1 with e1
    subst e1; subst e3; subst e2
    refine .inr ⟨g, cap, cur.setIfInBounds (j * fm.k + m) v, by rw [hl], b1, heap_setCell_same w g (j * fm.k + m) cur _ v b2, by rw [hl]; exact b3, b4, by simp [b5], ?_⟩
    rw [hl, Array.toList_setIfInBounds, List.take_set, b6]
    exact rowsG_set l j m x x' v hj hm hr
theorem lad_none {s : Int} {out : List Lv} {x : Or} (h : x.s ≠ s) : ladStep s out x = out := if_pos h
theorem lad_new {s : Int} {out : List Lv} {x : Or} (h : x.s = s) (ho : ∀ y, out.getLast? = some y → y.p ≠ x.p) : ladStep s out x = out ++ [⟨x.p, x.n, 1⟩] := by
  unfold ladStep
  rw [if_neg (by simpa using h)]
  cases hg : out.getLast? with
  | none => rfl
  | some y => simp only; rw [if_neg (ho y hg)]
theorem lad_add {s : Int} {out : List Lv} {x : Or} {y : Lv} (h : x.s = s) (hp : y.p = x.p) : ladStep s (out ++ [y]) x = out ++ [⟨y.p, y.n + x.n, y.c + 1⟩] := by
  unfold ladStep
  rw [if_neg (by simpa using h), List.getLast?_concat]
  simp only
  rw [if_pos hp, List.dropLast_concat]
/-- What a ladder under way holds. -/
structure LBd (k : Nat) (out : List Lv) : Prop where
  len : out.length ≤ k
  bd : ∀ y ∈ out, 0 ≤ y.n ∧ y.n ≤ 1000000 * k ∧ 0 ≤ y.c ∧ y.c ≤ k
theorem LBd.step {s : Int} {k : Nat} {out : List Lv} {x : Or} (h : LBd k out) (h1 : 1 ≤ x.n) (h2 : x.n ≤ 1000000) : LBd (k + 1) (ladStep s out x) := by
  have up : ∀ y ∈ out, 0 ≤ y.n ∧ y.n ≤ 1000000 * ((k + 1 : Nat) : Int) ∧ 0 ≤ y.c ∧ y.c ≤ ((k + 1 : Nat) : Int) := fun y hy => by
    obtain ⟨a, b, c, e⟩ := h.bd y hy
    refine ⟨a, by push_cast; omega, c, by push_cast; omega⟩
  by_cases hs : x.s = s
  · rcases List.eq_nil_or_concat out with rfl | ⟨o, y, ho⟩
    · rw [lad_new hs (fun y hy => by simp at hy)]
      refine ⟨by simp, fun y hy => ?_⟩
      simp only [List.nil_append, List.mem_singleton] at hy
      rw [hy]; refine ⟨by show 0 ≤ x.n; omega, by show x.n ≤ _; push_cast; omega, by show (0 : Int) ≤ 1; omega, by show (1 : Int) ≤ _; push_cast; omega⟩
    · have ho' : out = o ++ [y] := by simpa using ho
      by_cases hp : y.p = x.p
      · rw [ho', lad_add hs hp]
        refine ⟨by have := h.len; rw [ho'] at this; simp at this ⊢; omega, fun z hz => ?_⟩
        rcases List.mem_append.1 hz with k1 | k1
        · exact up z (by rw [ho']; simp [k1])
        · rw [List.mem_singleton.1 k1]
          obtain ⟨a, b, c, e⟩ := h.bd y (by rw [ho']; simp)
          refine ⟨by show 0 ≤ y.n + x.n; omega, by show y.n + x.n ≤ _; push_cast; omega, by show 0 ≤ y.c + 1; omega, by show y.c + 1 ≤ _; push_cast; omega⟩
      · rw [lad_new hs (fun z hz => by rw [ho', List.getLast?_concat] at hz; injection hz with hz; rw [← hz]; exact hp)]
        refine ⟨by have := h.len; simp; omega, fun z hz => ?_⟩
        rcases List.mem_append.1 hz with k1 | k1
        · exact up z k1
        · rw [List.mem_singleton.1 k1]
          refine ⟨by show 0 ≤ x.n; omega, by show x.n ≤ _; push_cast; omega, by show (0 : Int) ≤ 1; omega, by show (1 : Int) ≤ _; push_cast; omega⟩
  · rw [lad_none hs]
    exact ⟨by have := h.len; omega, up⟩
theorem build_rlevel (p : Int) : ∀ W : World, (Instr.build 72 #[(0, .int .i64 p)]).run Try.prog W = .ok (.agg #[.int .i64 p, .int .i64 0, .int .i64 0]) W := fun W => by kernel_rfl
set_option maxRecDepth 100000 in
set_option maxHeartbeats 4000000 in
theorem RLadder_any (B d : Nat) (v : Value) (L : List Or) (s : Int) (w : World) (hR : Hid (Rm B d v L w)) (hn : L.length ≤ 100000) (hF : Hid (∀ x ∈ L, 1 ≤ x.n ∧ x.n ≤ 1000000)) :
    Calls Try.prog 31 #[.pointer (some ⟨d, 0, none⟩), .int .i64 s] w (RLPost w.heap.size (ladO L s) w) := by
  obtain ⟨i0, hi0, hz0, hz1, hz2⟩ := info_parts info_rlevel
  have bs : Hid (Below w.heap.size w w) := Lib.hid (Below.refl _ _)
  have st0 : Hid (Own fL 72 w w.heap.size (.slice none 0 0) (ladO (L.take 0) s)) := Lib.hid (own_nil _ _ _)
  have lb0 : Hid (LBd 0 (ladO (L.take 0) s)) := Lib.hid ⟨Nat.le_refl _, fun y hy => by cases hy⟩
  obtain ⟨A, cap, ev, -, h1, h2, -, -⟩ := hR.out.own.slice
  obtain ⟨n, en⟩ : ∃ n, L.length = n := ⟨_, rfl⟩
  obtain ⟨g, eg⟩ : ∃ g, w.heap.size = g := ⟨_, rfl⟩
  rw [eg] at st0 ⊢
  rw [en] at ev hn h1
  replace eg := Lib.hid eg
  replace en := Lib.hid en
  have hcell : Hid (∀ W, Below w.heap.size w W → W.cell? ⟨d, 0, none⟩ = some (.slice A n cap) ∧ HV fO W A n L) := Lib.hid (fun W h => by
    have h1 := hR.out.below h
    obtain ⟨A', cap', ev', hv', -, -, -, -⟩ := h1.own.slice
    have e2 := ev'.symm.trans ev
    injection e2 with e3 e4 e5
    refine ⟨by rw [h1.cell.1, ev], ?_⟩
    rw [← e3, ← en.out]; exact hv')
  replace ev := Lib.hid ev
  go_enter Try.func31, Try.ntmps31
  go_wp2_with fail
  go_loopw [5, 6] (fun v' i wr => ∃ j : Nat, i = .int .i64 j ∧ j ≤ n ∧ Hid (Own fL 72 wr g v' (ladO (L.take j) s)) ∧ Hid (LBd j (ladO (L.take j) s)) ∧ Hid (Below w.heap.size w wr)) (fun _ i _ => (n - intOf i).toNat)
  case atStart => exact ⟨0, rfl, by omega, st0, lb0, bs⟩
  case round =>
    clear st0 bs lb0
    obtain ⟨j, rfl, hj, hOw, hLb, hB⟩ := hrel
    obtain ⟨c0, hv⟩ := hcell.out wr hB.out
    by_cases hlt : j < n
    · obtain ⟨x, hx⟩ : ∃ x, L[j]? = some x := ⟨_, List.getElem?_eq_getElem (by rw [en.out]; exact hlt)⟩
      obtain ⟨f1, f2⟩ := hF.out x (List.mem_of_getElem? hx)
      have htk : ladO (L.take (j + 1)) s = ladStep s (ladO (L.take j) s) x := by
        unfold ladO; rw [List.take_add_one, hx, List.foldl_append]; rfl
      have hLb2 : Hid (LBd (j + 1) (ladO (L.take (j + 1)) s)) := Lib.hid (by rw [htk]; exact hLb.out.step f1 f2)
      obtain ⟨gv, off, rfl, d0, d1, d2, d3, d4⟩ := hv.atO hx
      obtain ⟨o, eo⟩ : ∃ o, ladO (L.take j) s = o := ⟨_, rfl⟩
      rw [eo] at hOw hLb htk
      obtain ⟨W3, eW3⟩ : ∃ W, wr.alloc (.cells #[.int .i64 x.i, .int .i64 x.s, .int .i64 x.p, .int .i64 x.n, .bool x.t] 68) = W := ⟨_, rfl⟩
      obtain ⟨g7, eg7⟩ : ∃ x, wr.heap.size = x := ⟨_, rfl⟩
      have b3 : Below wr.heap.size wr W3 := by rw [← eW3]; exact (Below.refl _ wr).alloc (Nat.le_refl _) _
      have hg7 : W3.heap[g7]? = some (.cells #[.int .i64 x.i, .int .i64 x.s, .int .i64 x.p, .int .i64 x.n, .bool x.t] 68 (0, 0)) := by rw [← eW3, ← eg7]; exact heap_alloc_new wr _
      have B3 : Hid (Below w.heap.size w W3) := Lib.hid (hB.out.trans (b3.mono hB.out.size))
      have hO3 := Lib.hid (hOw.out.below b3)
      have hu := Lib.hid (fun k (hk : u5.ownBlock = some k) => hOw.out.lt k hk)
      obtain ⟨⟨q0, q1, q2, q3, q4⟩, -⟩ := row5 hg7
      have hg7h := Lib.hid hg7
      obtain ⟨xi, xs, xp, xn, xt⟩ := x
      simp only at d0 d1 d2 d3 d4 f1 f2 q0 q1 q2 q3 q4 eW3 htk
      have hlt2 : (j : Int) < (n : Int) := by omega
      replace hv := Lib.hid hv
      replace hx := Lib.hid hx
      replace b3 := Lib.hid b3
      replace eo := Lib.hid eo
      clear hg7
      by_cases h3 : xs = s
      · have k3 : (xs != s) = false := by simpa using h3
        have keq : (xs == s) = true := by simpa using h3
        obtain ⟨A9, c9', e9, -, -, -, -, -⟩ := hO3.out.slice
        have hng7 : Hid (u5.ownBlock ≠ some g7) := Lib.hid (fun e => by have := (hu.out g7 e).2; omega)
        rcases List.eq_nil_or_concat o with ho | ⟨o2, y, ho⟩
        · rw [ho] at e9
          simp only [List.length_nil] at e9
          have hlast : ∀ z, o.getLast? = some z → z.p ≠ xp := (fun z hz => by rw [ho] at hz; simp at hz)
          have htk2 : Hid (ladO (L.take (j + 1)) s = o ++ [⟨xp, xn, 1⟩]) := Lib.hid (by rw [htk, lad_new h3 hlast])
          clear htk
          have htk := htk2
          clear htk2
          replace h3 := Lib.hid h3
          replace hlast := Lib.hid hlast
          replace ho := Lib.hid ho
          subst e9
          obtain ⟨c3, -⟩ := hcell.out W3 B3.out
          go_wp2_with fail
          go_quiet (fail)
          go_upto_region 9 with (fail)
          obtain ⟨W4, eW4⟩ : ∃ W, W3.drewN nq = W := ⟨_, rfl⟩
          rw [eW4]
          have B4 : Hid (Below w.heap.size w W4) := Lib.hid (by rw [← eW4]; exact ⟨B3.out.os, B3.out.tape, B3.out.output, B3.out.size, B3.out.block⟩)
          have O4 : Hid (Own fL 72 W4 g (.slice A9 0 c9') o) := Lib.hid (by rw [← eW4]; exact hO3.out)
          have hg74 : W4.heap[g7]? = some (.cells #[.int .i64 xi, .int .i64 xs, .int .i64 xp, .int .i64 xn, .bool xt] 68 (0, 0)) := by rw [← eW4]; exact hg7h.out
          clear eW4 q0 q1 q2 q3 q4 c0 c3 d0 d1 d2 d3 d4 hO3 hOw
          have h5l : W4.heap.size ≤ W4.heap.size := Nat.le_refl _
          obtain ⟨h5, eh5⟩ : ∃ x, W4.heap.size = x := ⟨_, rfl⟩
          obtain ⟨W5, eW5⟩ : ∃ W, W4.alloc (.cells #[.int .i64 xp, .int .i64 0, .int .i64 0] 72) = W := ⟨_, rfl⟩
          have b5 : Below W4.heap.size W4 W5 := by rw [← eW5]; exact (Below.refl _ W4).alloc (Nat.le_refl _) _
          have hO5 := Lib.hid (O4.out.below b5)
          have hv5 : Hid (HV fL W5 (some ⟨h5, 0, none⟩) 1 [⟨xp, 0, 0⟩]) := Lib.hid (hv_oneL (x := ⟨xp, 0, 0⟩) (by rw [← eW5, ← eh5]; exact heap_alloc_new W4 _))
          have B5 : Hid (Below w.heap.size w W5) := Lib.hid (B4.out.trans (b5.mono B4.out.size))
          have hg5 : Hid (g ≤ W5.heap.size) := Lib.hid (by have := B5.out.size; have := eg.out; omega)
          have hlen : o.length + 1 ≤ 1000000 := by have := hLb.out.len; omega
          have hg75 : W5.heap[g7]? = some (.cells #[.int .i64 xi, .int .i64 xs, .int .i64 xp, .int .i64 xn, .bool xt] 68 (0, 0)) := (b5.block g7 (Array.getElem?_eq_some_iff.1 hg74).1).trans hg74
          obtain ⟨⟨q0, q1, q2, q3, q4⟩, -⟩ := row5 hg74
          have hbr := build_rlevel xp
          replace b5 := Lib.hid b5
          replace hg75 := Lib.hid hg75
          clear O4
          go_wp2_with (at_builtin; refine wpList_onto_g (fm := fL) (T := 72) rfl (.tmp 44) (.tmp 48) 76 rfl g i0 (.agg #[.int .i64 0, .int .i64 0, .int .i64 0]) 24 Try.underlying76 hi0 hz0 hz1 hz2 rfl (by decide) (.slice A9 0 c9') o rfl hO5.out (some ⟨h5, 0, none⟩) 1 1 [⟨xp, 0, 0⟩] rfl hv5.out (fun e => by cases e) hlen hg5.out ?_)
          intro v6 w6 o6 gr6 k6
          have B6a : Below w.heap.size w w6 := B5.out.grown gr6 (by have := B5.out.size; omega) (fun k hk => by have := (hu.out k hk).1; have := eg.out; omega)
          have hg76 : w6.heap[g7]? = some (.cells #[.int .i64 xi, .int .i64 xs, .int .i64 xp, .int .i64 xn, .bool xt] 68 (0, 0)) := (gr6.block g7 (Array.getElem?_eq_some_iff.1 hg75.out).1 (fun e => by have := hng7.out; exact this e.symm)).trans hg75.out
          obtain ⟨ob, c1, cur6, e6, hob6, hol6, hoh6, hc1, hc2, -, -⟩ := o6.open' (by simp)
          obtain ⟨m1, em1⟩ : ∃ m, (o ++ [(⟨xp, 0, 0⟩ : Lv)]).length = m := ⟨_, rfl⟩
          rw [em1] at e6 hc1
          subst e6
          have OT : Hid (Own fL 72 w6 g (.slice (some ⟨ob, 0, none⟩) m1 c1) (o ++ [⟨xp, 0, 0⟩])) := Lib.hid o6
          have BT := Lib.hid B6a
          have hobg : Hid (w.heap.size ≤ ob) := Lib.hid (by have := eg.out; omega)
          obtain ⟨m0, em0⟩ : ∃ m, o.length = m := ⟨_, rfl⟩
          have ho0 : o.length = 0 := by rw [ho.out]; rfl
          have hmm : m1 = m0 + 1 := by rw [← em1, List.length_append, em0]; rfl
          have hmj : m1 ≤ 100001 := by have := hLb.out.len; omega
          have hc63 : c1 ≤ 9223372036854775807 := by unfold maxLen at hc2; omega
          have hmw : IntKind.i64.wrap ((0 : Int) + 1) = (m1 : Int) := by rw [show (0 : Int) + 1 = (m1 : Int) by omega]; exact IntWalk.i64_in _ (by omega)
          have hmw2 : (0 : Int) + 1 = (m1 : Int) := by omega
          replace em0 := Lib.hid em0
          replace em1 := Lib.hid em1
          clear o6 gr6 k6 hO5 hv5 q0 q1 q2 q3 q4 hoh6 B6a eW5 eh5 h5l
          have a9 := hcell.out w6 BT.out
          go_wp2_with fail
          clear hmw hmw2
          obtain ⟨⟨q0, q1, q2, q3, q4⟩, -⟩ := row5 hg76
          have e0 : (o ++ [(⟨xp, 0, 0⟩ : Lv)])[m0]? = some ⟨xp, 0, 0⟩ := by rw [← em0.out]; simp
          obtain ⟨gT, capT, curT, eT, -, hTl, hTh, -, -, -, -⟩ := OT.out.open' (by simp)
          injection eT with eT1 eT2 eT3
          injection eT1 with eT1
          injection eT1 with eT1
          subst eT1
          obtain ⟨AT, cT, eT4, HT, -, -, -, -⟩ := OT.out.slice
          injection eT4 with eT4 eT5 eT6
          rw [← eT4] at HT
          obtain ⟨ob', off', eb, a0, a1, a2⟩ := HT.atL e0
          injection eb with eb
          injection eb with eb eb2
          subst eb; subst eb2
          simp only [Nat.zero_add] at a0 a1 a2
          have z0 := Lib.frozen_of_heap hTh (m0 * 3 + 1)
          have z1 := Lib.frozen_of_heap hTh (m0 * 3 + 2)
          have hs1 : IntKind.i64.wrap (0 + xn) = xn := by first | exact IntWalk.i64_in _ (by omega) | (rw [Int.zero_add]; exact IntWalk.i64_in _ (by omega))
          have hs2 : IntKind.i64.wrap (0 + 1) = 1 := by first | exact IntWalk.i64_in _ (by omega) | decide
          have OT2 := OT.out.set (fm := fL) (j := m0) (m := 1) (x' := ⟨xp, xn, 0⟩) (v := .int .i64 (xn)) e0 (by decide) rfl
          have e1 : ((o ++ [(⟨xp, 0, 0⟩ : Lv)]).set m0 ⟨xp, xn, 0⟩)[m0]? = some ⟨xp, xn, 0⟩ := by rw [← em0.out]; simp
          have OT2d : Own fL 72 (w6.setCell ⟨ob, m0 * 3 + 1, none⟩ (.int .i64 (xn))).drew g _ _ := OT2
          have OT3 := OT2d.set (fm := fL) (j := m0) (m := 2) (x' := ⟨xp, xn, 1⟩) (v := .int .i64 (1)) e1 (by decide) rfl
          have e2 : ((o ++ [(⟨xp, 0, 0⟩ : Lv)]).set m0 ⟨xp, xn, 0⟩).set m0 ⟨xp, xn, 1⟩ = o ++ [⟨xp, xn, 1⟩] := by rw [← em0.out]; simp
          obtain ⟨W6, eW6⟩ : ∃ W, (w6.setCell ⟨ob, m0 * 3 + 1, none⟩ (.int .i64 (xn))).drew = W := ⟨_, rfl⟩
          have a2' : W6.cell? ⟨ob, m0 * 3 + 2, none⟩ = some (.int .i64 0) := by rw [← eW6]; exact (World.cell?_setCell_other w6 _ _ _ (by simp)).trans a2
          have z1' : W6.frozen? ⟨ob, m0 * 3 + 2, none⟩ = false := by rw [← eW6]; show (w6.setCell ⟨ob, m0 * 3 + 1, none⟩ (.int .i64 (xn))).frozen? _ = false; rw [World.frozen?_setCell]; exact z1
          have B6 : Below w.heap.size w W6 := by rw [← eW6]; exact (BT.out.setCell (p := ⟨ob, m0 * 3 + 1, none⟩) hobg.out _).drew
          have BT2 : Hid (Below w.heap.size w (W6.setCell ⟨ob, m0 * 3 + 2, none⟩ (.int .i64 (1)))) := Lib.hid (B6.setCell (p := ⟨ob, m0 * 3 + 2, none⟩) hobg.out _)
          have fin : Hid (Own fL 72 (W6.setCell ⟨ob, m0 * 3 + 2, none⟩ (.int .i64 (1))) g (.slice (some ⟨ob, 0, none⟩) m1 c1) (ladO (L.take (j + 1)) s)) := Lib.hid (by
            rw [htk.out, ← e2, ← eW6]; exact OT3)
          obtain ⟨c9, -⟩ := hcell.out _ BT2.out
          have hM1 : IntKind.i64.wrap ((m1 : Int) - 1) = (m0 : Int) := by rw [show ((m1 : Int) - 1) = (m0 : Int) by omega]; exact IntWalk.i64_in _ (by omega)
          have hM2 : (m1 : Int) - 1 = (m0 : Int) := by omega
          have hm0m : m0 < m1 := by omega
          have hm0i : (m0 : Int) < (m1 : Int) := by omega
          replace hmm := Lib.hid hmm
          replace e2 := Lib.hid e2
          replace eW6 := Lib.hid eW6
          replace B6 := Lib.hid B6
          clear e0 e1 OT2 OT2d OT3 OT HT eT2 eT3 eT4 eT5 eT6 hTh
          go_region
          rw [eW6.out]
          go_wp2_with fail
          go_roundw
          case rel => exact ⟨j + 1, by go_num, by omega, fin, hLb2, BT2⟩
          case measure => simp [intOf]; omega
        · have ho' : o = o2 ++ [y] := by simpa using ho
          obtain ⟨mE, emE⟩ : ∃ m, o.length = m := ⟨_, rfl⟩
          have hmE : mE ≤ 100000 := by have := hLb.out.len; omega
          have hmE1 : 1 ≤ mE := by rw [← emE, ho', List.length_append]; simp
          obtain ⟨ob0, c0', cur0, eu, hog0, hol0, hoh0, hc10, hc20, -, -⟩ := hO3.out.open' (by omega)
          rw [emE] at eu hc10
          obtain ⟨y1, y2, y3, y4⟩ := hLb.out.bd y (by rw [ho']; simp)
          obtain ⟨mm0, emm0⟩ : ∃ m, o2.length = m := ⟨_, rfl⟩
          have hmE2 : mE = mm0 + 1 := by rw [← emE, ho', List.length_append, emm0]; rfl
          obtain ⟨A8, c8, e8, HT8, -, -, -, -⟩ := hO3.out.slice
          rw [eu] at e8
          injection e8 with e8a e8b e8c
          rw [← e8a, ho'] at HT8
          obtain ⟨ob8, off8, eb8, w0, -, -⟩ := HT8.atL (j := mm0) (x := y) (by rw [← emm0]; simp)
          injection eb8 with eb8
          injection eb8 with eb8 eb9
          subst eb8; subst eb9
          simp only [Nat.zero_add] at w0
          have hmi : ((mE : Int) == 0) = false := by simp; omega
          have hmi2 : ¬ (mE : Int) = 0 := by omega
          have hc63' : c0' ≤ 9223372036854775807 := by unfold maxLen at hc20; omega
          have hMw : IntKind.i64.wrap ((mE : Int) - 1) = (mm0 : Int) := by rw [show ((mE : Int) - 1) = (mm0 : Int) by omega]; exact IntWalk.i64_in _ (by omega)
          have hMw2 : (mE : Int) - 1 = (mm0 : Int) := by omega
          have hMl : mm0 < mE := by omega
          have hMi : (mm0 : Int) < (mE : Int) := by omega
          obtain ⟨yp, yn, yc⟩ := y
          simp only at y1 y2 y3 y4 w0
          subst eu
          clear e8a e8b e8c HT8 hoh0 e9 A9 cur0
        
          by_cases h4 : yp = xp
          · have k4 : (yp != xp) = false := by simpa using h4
            have htk2 : Hid (ladO (L.take (j + 1)) s = o2 ++ [⟨yp, yn + xn, yc + 1⟩]) := Lib.hid (by rw [htk, ho', lad_add (y := ⟨yp, yn, yc⟩) h3 h4])
            clear htk
            have htk := htk2
            clear htk2
            replace h3 := Lib.hid h3
            replace h4 := Lib.hid h4
            have hmm : mE = mm0 + 1 := hmE2
            replace hmE2 := Lib.hid hmE2
            replace emE := Lib.hid emE
            have hobg : Hid (w.heap.size ≤ ob0) := Lib.hid (by have := eg.out; omega)
            obtain ⟨m0, emm⟩ : ∃ m, mm0 = m := ⟨_, rfl⟩
            subst emm
            have em0 := Lib.hid emm0
            clear emm0
            replace hmm := Lib.hid hmm
            replace ho' := Lib.hid ho'
            replace ho := Lib.hid ho
            obtain ⟨c3, -⟩ := hcell.out W3 B3.out
            go_wp2_with fail
            go_quiet (fail)
            go_wp2_with fail
            obtain ⟨W4, eW4⟩ : ∃ W, W3.drewN nq = W := ⟨_, rfl⟩
            rw [eW4]
            have B4 : Hid (Below w.heap.size w W4) := Lib.hid (by rw [← eW4]; exact ⟨B3.out.os, B3.out.tape, B3.out.output, B3.out.size, B3.out.block⟩)
            have O4 : Hid (Own fL 72 W4 g (.slice (some ⟨ob0, 0, none⟩) mE c0') o) := Lib.hid (by rw [← eW4]; exact hO3.out)
            have hg74 : W4.heap[g7]? = some (.cells #[.int .i64 xi, .int .i64 xs, .int .i64 xp, .int .i64 xn, .bool xt] 68 (0, 0)) := by rw [← eW4]; exact hg7h.out
            clear eW4 q0 q1 q2 q3 q4 c0 c3 d0 d1 d2 d3 d4 hO3 hOw
            have OT : Hid (Own fL 72 W4 g (.slice (some ⟨ob0, 0, none⟩) mE c0') (o2 ++ [⟨yp, yn, yc⟩])) := Lib.hid (by rw [← ho'.out]; exact O4.out)
            have hmm := hmE2.out
            clear O4
            obtain ⟨⟨q0, q1, q2, q3, q4⟩, -⟩ := row5 hg74
            have e0 : (o2 ++ [(⟨yp, yn, yc⟩ : Lv)])[mm0]? = some ⟨yp, yn, yc⟩ := by rw [← em0.out]; simp
            obtain ⟨gT, capT, curT, eT, -, hTl, hTh, -, -, -, -⟩ := OT.out.open' (by simp)
            injection eT with eT1 eT2 eT3
            injection eT1 with eT1
            injection eT1 with eT1
            subst eT1
            obtain ⟨AT, cT, eT4, HT, -, -, -, -⟩ := OT.out.slice
            injection eT4 with eT4 eT5 eT6
            rw [← eT4] at HT
            obtain ⟨ob', off', eb, a0, a1, a2⟩ := HT.atL e0
            injection eb with eb
            injection eb with eb eb2
            subst eb; subst eb2
            simp only [Nat.zero_add] at a0 a1 a2
            have z0 := Lib.frozen_of_heap hTh (mm0 * 3 + 1)
            have z1 := Lib.frozen_of_heap hTh (mm0 * 3 + 2)
            have hs1 : IntKind.i64.wrap (yn + xn) = yn + xn := by first | exact IntWalk.i64_in _ (by omega) | (rw [Int.zero_add]; exact IntWalk.i64_in _ (by omega))
            have hs2 : IntKind.i64.wrap (yc + 1) = yc + 1 := by first | exact IntWalk.i64_in _ (by omega) | decide
            have OT2 := OT.out.set (fm := fL) (j := mm0) (m := 1) (x' := ⟨yp, yn + xn, yc⟩) (v := .int .i64 (yn + xn)) e0 (by decide) rfl
            have e1 : ((o2 ++ [(⟨yp, yn, yc⟩ : Lv)]).set mm0 ⟨yp, yn + xn, yc⟩)[mm0]? = some ⟨yp, yn + xn, yc⟩ := by rw [← em0.out]; simp
            have OT2d : Own fL 72 (W4.setCell ⟨ob0, mm0 * 3 + 1, none⟩ (.int .i64 (yn + xn))).drew g _ _ := OT2
            have OT3 := OT2d.set (fm := fL) (j := mm0) (m := 2) (x' := ⟨yp, yn + xn, yc + 1⟩) (v := .int .i64 (yc + 1)) e1 (by decide) rfl
            have e2 : ((o2 ++ [(⟨yp, yn, yc⟩ : Lv)]).set mm0 ⟨yp, yn + xn, yc⟩).set mm0 ⟨yp, yn + xn, yc + 1⟩ = o2 ++ [⟨yp, yn + xn, yc + 1⟩] := by rw [← em0.out]; simp
            obtain ⟨W6, eW6⟩ : ∃ W, (W4.setCell ⟨ob0, mm0 * 3 + 1, none⟩ (.int .i64 (yn + xn))).drew = W := ⟨_, rfl⟩
            have a2' : W6.cell? ⟨ob0, mm0 * 3 + 2, none⟩ = some (.int .i64 yc) := by rw [← eW6]; exact (World.cell?_setCell_other W4 _ _ _ (by simp)).trans a2
            have z1' : W6.frozen? ⟨ob0, mm0 * 3 + 2, none⟩ = false := by rw [← eW6]; show (W4.setCell ⟨ob0, mm0 * 3 + 1, none⟩ (.int .i64 (yn + xn))).frozen? _ = false; rw [World.frozen?_setCell]; exact z1
            have B6 : Below w.heap.size w W6 := by rw [← eW6]; exact (B4.out.setCell (p := ⟨ob0, mm0 * 3 + 1, none⟩) hobg.out _).drew
            have BT2 : Hid (Below w.heap.size w (W6.setCell ⟨ob0, mm0 * 3 + 2, none⟩ (.int .i64 (yc + 1)))) := Lib.hid (B6.setCell (p := ⟨ob0, mm0 * 3 + 2, none⟩) hobg.out _)
            have fin : Hid (Own fL 72 (W6.setCell ⟨ob0, mm0 * 3 + 2, none⟩ (.int .i64 (yc + 1))) g (.slice (some ⟨ob0, 0, none⟩) mE c0') (ladO (L.take (j + 1)) s)) := Lib.hid (by
              rw [htk.out, ← e2, ← eW6]; exact OT3)
            obtain ⟨c9, -⟩ := hcell.out _ BT2.out
            have hM1 : IntKind.i64.wrap ((mE : Int) - 1) = (mm0 : Int) := by rw [show ((mE : Int) - 1) = (mm0 : Int) by omega]; exact IntWalk.i64_in _ (by omega)
            have hM2 : (mE : Int) - 1 = (mm0 : Int) := by omega
            have hm0m : mm0 < mE := by omega
            have hm0i : (mm0 : Int) < (mE : Int) := by omega
            replace hmm := Lib.hid hmm
            replace e2 := Lib.hid e2
            replace eW6 := Lib.hid eW6
            replace B6 := Lib.hid B6
            clear e0 e1 OT2 OT2d OT3 OT HT eT2 eT3 eT4 eT5 eT6 hTh
            go_region
            rw [eW6.out]
            go_wp2_with fail
            go_roundw
            case rel => exact ⟨j + 1, by go_num, by omega, fin, hLb2, BT2⟩
            case measure => simp [intOf]; omega
          · have k4 : (yp != xp) = true := by simpa using h4
            have hlast : ∀ z, o.getLast? = some z → z.p ≠ xp := (fun z hz => by rw [ho', List.getLast?_concat] at hz; injection hz with hz; rw [← hz]; exact h4)
            have htk2 : Hid (ladO (L.take (j + 1)) s = o ++ [⟨xp, xn, 1⟩]) := Lib.hid (by rw [htk, lad_new h3 hlast])
            clear htk
            have htk := htk2
            clear htk2
            replace h3 := Lib.hid h3
            replace hlast := Lib.hid hlast
            replace h4 := Lib.hid h4
            replace hmE2 := Lib.hid hmE2
            replace emE := Lib.hid emE
            replace emm0 := Lib.hid emm0
            replace ho' := Lib.hid ho'
            replace ho := Lib.hid ho
            obtain ⟨c3, -⟩ := hcell.out W3 B3.out
            go_wp2_with fail
            go_quiet (fail)
            go_upto_region 9 with (fail)
            obtain ⟨W4, eW4⟩ : ∃ W, W3.drewN nq = W := ⟨_, rfl⟩
            rw [eW4]
            have B4 : Hid (Below w.heap.size w W4) := Lib.hid (by rw [← eW4]; exact ⟨B3.out.os, B3.out.tape, B3.out.output, B3.out.size, B3.out.block⟩)
            have O4 : Hid (Own fL 72 W4 g (.slice (some ⟨ob0, 0, none⟩) mE c0') o) := Lib.hid (by rw [← eW4]; exact hO3.out)
            have hg74 : W4.heap[g7]? = some (.cells #[.int .i64 xi, .int .i64 xs, .int .i64 xp, .int .i64 xn, .bool xt] 68 (0, 0)) := by rw [← eW4]; exact hg7h.out
            clear eW4 q0 q1 q2 q3 q4 c0 c3 d0 d1 d2 d3 d4 hO3 hOw
            clear w0
            have h5l : W4.heap.size ≤ W4.heap.size := Nat.le_refl _
            obtain ⟨h5, eh5⟩ : ∃ x, W4.heap.size = x := ⟨_, rfl⟩
            obtain ⟨W5, eW5⟩ : ∃ W, W4.alloc (.cells #[.int .i64 xp, .int .i64 0, .int .i64 0] 72) = W := ⟨_, rfl⟩
            have b5 : Below W4.heap.size W4 W5 := by rw [← eW5]; exact (Below.refl _ W4).alloc (Nat.le_refl _) _
            have hO5 := Lib.hid (O4.out.below b5)
            have hv5 : Hid (HV fL W5 (some ⟨h5, 0, none⟩) 1 [⟨xp, 0, 0⟩]) := Lib.hid (hv_oneL (x := ⟨xp, 0, 0⟩) (by rw [← eW5, ← eh5]; exact heap_alloc_new W4 _))
            have B5 : Hid (Below w.heap.size w W5) := Lib.hid (B4.out.trans (b5.mono B4.out.size))
            have hg5 : Hid (g ≤ W5.heap.size) := Lib.hid (by have := B5.out.size; have := eg.out; omega)
            have hlen : o.length + 1 ≤ 1000000 := by have := hLb.out.len; omega
            have hg75 : W5.heap[g7]? = some (.cells #[.int .i64 xi, .int .i64 xs, .int .i64 xp, .int .i64 xn, .bool xt] 68 (0, 0)) := (b5.block g7 (Array.getElem?_eq_some_iff.1 hg74).1).trans hg74
            obtain ⟨⟨q0, q1, q2, q3, q4⟩, -⟩ := row5 hg74
            have hbr := build_rlevel xp
            replace b5 := Lib.hid b5
            replace hg75 := Lib.hid hg75
            clear O4
            go_wp2_with (at_builtin; refine wpList_onto_g (fm := fL) (T := 72) rfl (.tmp 44) (.tmp 48) 76 rfl g i0 (.agg #[.int .i64 0, .int .i64 0, .int .i64 0]) 24 Try.underlying76 hi0 hz0 hz1 hz2 rfl (by decide) (.slice (some ⟨ob0, 0, none⟩) mE c0') o rfl hO5.out (some ⟨h5, 0, none⟩) 1 1 [⟨xp, 0, 0⟩] rfl hv5.out (fun e => by cases e) hlen hg5.out ?_)
            intro v6 w6 o6 gr6 k6
            have B6a : Below w.heap.size w w6 := B5.out.grown gr6 (by have := B5.out.size; omega) (fun k hk => by have := (hu.out k hk).1; have := eg.out; omega)
            have hg76 : w6.heap[g7]? = some (.cells #[.int .i64 xi, .int .i64 xs, .int .i64 xp, .int .i64 xn, .bool xt] 68 (0, 0)) := (gr6.block g7 (Array.getElem?_eq_some_iff.1 hg75.out).1 (fun e => by have := hng7.out; exact this e.symm)).trans hg75.out
            obtain ⟨ob, c1, cur6, e6, hob6, hol6, hoh6, hc1, hc2, -, -⟩ := o6.open' (by simp)
            obtain ⟨m1, em1⟩ : ∃ m, (o ++ [(⟨xp, 0, 0⟩ : Lv)]).length = m := ⟨_, rfl⟩
            rw [em1] at e6 hc1
            subst e6
            have OT : Hid (Own fL 72 w6 g (.slice (some ⟨ob, 0, none⟩) m1 c1) (o ++ [⟨xp, 0, 0⟩])) := Lib.hid o6
            have BT := Lib.hid B6a
            have hobg : Hid (w.heap.size ≤ ob) := Lib.hid (by have := eg.out; omega)
            obtain ⟨m0, em0⟩ : ∃ m, o.length = m := ⟨_, rfl⟩
            have emE' := emE.out
            have hmm : m1 = m0 + 1 := by rw [← em1, List.length_append, em0]; rfl
            have hmj : m1 ≤ 100001 := by have := hLb.out.len; omega
            have hc63 : c1 ≤ 9223372036854775807 := by unfold maxLen at hc2; omega
            have hmw : IntKind.i64.wrap ((mE : Int) + 1) = (m1 : Int) := by rw [show (mE : Int) + 1 = (m1 : Int) by omega]; exact IntWalk.i64_in _ (by omega)
            have hmw2 : (mE : Int) + 1 = (m1 : Int) := by omega
            replace em0 := Lib.hid em0
            clear emE'
            replace em1 := Lib.hid em1
            clear o6 gr6 k6 hO5 hv5 q0 q1 q2 q3 q4 hoh6 B6a eW5 eh5 h5l
            have a9 := hcell.out w6 BT.out
            go_wp2_with fail
            clear hmw hmw2
            obtain ⟨⟨q0, q1, q2, q3, q4⟩, -⟩ := row5 hg76
            have e0 : (o ++ [(⟨xp, 0, 0⟩ : Lv)])[m0]? = some ⟨xp, 0, 0⟩ := by rw [← em0.out]; simp
            obtain ⟨gT, capT, curT, eT, -, hTl, hTh, -, -, -, -⟩ := OT.out.open' (by simp)
            injection eT with eT1 eT2 eT3
            injection eT1 with eT1
            injection eT1 with eT1
            subst eT1
            obtain ⟨AT, cT, eT4, HT, -, -, -, -⟩ := OT.out.slice
            injection eT4 with eT4 eT5 eT6
            rw [← eT4] at HT
            obtain ⟨ob', off', eb, a0, a1, a2⟩ := HT.atL e0
            injection eb with eb
            injection eb with eb eb2
            subst eb; subst eb2
            simp only [Nat.zero_add] at a0 a1 a2
            have z0 := Lib.frozen_of_heap hTh (m0 * 3 + 1)
            have z1 := Lib.frozen_of_heap hTh (m0 * 3 + 2)
            have hs1 : IntKind.i64.wrap (0 + xn) = xn := by first | exact IntWalk.i64_in _ (by omega) | (rw [Int.zero_add]; exact IntWalk.i64_in _ (by omega))
            have hs2 : IntKind.i64.wrap (0 + 1) = 1 := by first | exact IntWalk.i64_in _ (by omega) | decide
            have OT2 := OT.out.set (fm := fL) (j := m0) (m := 1) (x' := ⟨xp, xn, 0⟩) (v := .int .i64 (xn)) e0 (by decide) rfl
            have e1 : ((o ++ [(⟨xp, 0, 0⟩ : Lv)]).set m0 ⟨xp, xn, 0⟩)[m0]? = some ⟨xp, xn, 0⟩ := by rw [← em0.out]; simp
            have OT2d : Own fL 72 (w6.setCell ⟨ob, m0 * 3 + 1, none⟩ (.int .i64 (xn))).drew g _ _ := OT2
            have OT3 := OT2d.set (fm := fL) (j := m0) (m := 2) (x' := ⟨xp, xn, 1⟩) (v := .int .i64 (1)) e1 (by decide) rfl
            have e2 : ((o ++ [(⟨xp, 0, 0⟩ : Lv)]).set m0 ⟨xp, xn, 0⟩).set m0 ⟨xp, xn, 1⟩ = o ++ [⟨xp, xn, 1⟩] := by rw [← em0.out]; simp
            obtain ⟨W6, eW6⟩ : ∃ W, (w6.setCell ⟨ob, m0 * 3 + 1, none⟩ (.int .i64 (xn))).drew = W := ⟨_, rfl⟩
            have a2' : W6.cell? ⟨ob, m0 * 3 + 2, none⟩ = some (.int .i64 0) := by rw [← eW6]; exact (World.cell?_setCell_other w6 _ _ _ (by simp)).trans a2
            have z1' : W6.frozen? ⟨ob, m0 * 3 + 2, none⟩ = false := by rw [← eW6]; show (w6.setCell ⟨ob, m0 * 3 + 1, none⟩ (.int .i64 (xn))).frozen? _ = false; rw [World.frozen?_setCell]; exact z1
            have B6 : Below w.heap.size w W6 := by rw [← eW6]; exact (BT.out.setCell (p := ⟨ob, m0 * 3 + 1, none⟩) hobg.out _).drew
            have BT2 : Hid (Below w.heap.size w (W6.setCell ⟨ob, m0 * 3 + 2, none⟩ (.int .i64 (1)))) := Lib.hid (B6.setCell (p := ⟨ob, m0 * 3 + 2, none⟩) hobg.out _)
            have fin : Hid (Own fL 72 (W6.setCell ⟨ob, m0 * 3 + 2, none⟩ (.int .i64 (1))) g (.slice (some ⟨ob, 0, none⟩) m1 c1) (ladO (L.take (j + 1)) s)) := Lib.hid (by
              rw [htk.out, ← e2, ← eW6]; exact OT3)
            obtain ⟨c9, -⟩ := hcell.out _ BT2.out
            have hM1 : IntKind.i64.wrap ((m1 : Int) - 1) = (m0 : Int) := by rw [show ((m1 : Int) - 1) = (m0 : Int) by omega]; exact IntWalk.i64_in _ (by omega)
            have hM2 : (m1 : Int) - 1 = (m0 : Int) := by omega
            have hm0m : m0 < m1 := by omega
            have hm0i : (m0 : Int) < (m1 : Int) := by omega
            replace hmm := Lib.hid hmm
            replace e2 := Lib.hid e2
            replace eW6 := Lib.hid eW6
            replace B6 := Lib.hid B6
            clear e0 e1 OT2 OT2d OT3 OT HT eT2 eT3 eT4 eT5 eT6 hTh
            go_region
            rw [eW6.out]
            go_wp2_with fail
            go_roundw
            case rel => exact ⟨j + 1, by go_num, by omega, fin, hLb2, BT2⟩
            case measure => simp [intOf]; omega
      · have k3 : (xs != s) = true := by simpa using h3
        have hO2 : Hid (Own fL 72 W3 g u5 (ladO (L.take (j + 1)) s)) := Lib.hid (by rw [htk, lad_none h3]; exact hO3.out)
        obtain ⟨c3, -⟩ := hcell.out W3 B3.out
        replace h3 := Lib.hid h3
        replace htk := Lib.hid htk
        clear hOw hLb hO3
        go_wp2_with fail
        go_roundw
        case rel => exact ⟨j + 1, by go_num, by omega, hO2, hLb2, B3⟩
        case measure => simp [intOf]; omega
    · obtain rfl : j = n := by omega
      have hfin : Hid (Own fL 72 wr g u5 (ladO L s)) := Lib.hid (by
        have := hOw.out
        rwa [List.take_of_length_le (by rw [en.out]; exact Nat.le_refl _)] at this)
      replace hv := Lib.hid hv
      clear hOw
      go_wp2_with fail
      go_ret
      exact ⟨_, rfl, hfin.out, by have := hB.out; rw [eg.out] at this; exact this⟩
end Go.Proofs.Ytlknlicokacoiaa
