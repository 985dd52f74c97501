/-
  Contract: dropIfEmpty, of book.
-/
import Derived.Test.YtlknlicokacoiaaBkSwap
import Derived.Test.YtlknlicokacoiaaBkLevel
namespace Go.Proofs.Ytlknlicokacoiaa
open Go.RowKit
set_option linter.unusedVariables false
set_option linter.unusedSimpArgs false

def dropC (c : Cs) (s q : Nat) (X Y : List (Int × Nat)) : Cs := if lq c.st q = [] then { c with R := upd c.R s (X ++ Y), S := c.S ++ [q] } else c
def DropPost (B b a : Nat) (F : Nat → Prop) (V : Nat → Value) (vs : Value) (c : Cs) (w : World) (e : Ending) (w' : World) : Prop :=
  ∃ V' vs', e = .returned (.tuple #[]) ∧ Wb B b a F V' vs' c w' ∧ Only (bfoot b V vs) w w' ∧ (∀ k, bfoot b V' vs' k → bfoot b V vs k ∨ w.heap.size ≤ k)
theorem info_int : (Try.prog.info? 3).map (fun i => (i.zero, i.size, i.bytes)) = some (some (.int .i64 0), 1, 8) := by kernel_rfl
theorem hv_oneN {w : World} {h : Nat} {T : TypeId} {q : Nat} (hh : w.heap[h]? = some (.cells #[.int .i64 (q : Int)] T (0, 0))) : HV fN w (some ⟨h, 0, none⟩) 1 [q] := by
  refine ⟨rfl, fun j y hy => ⟨h, 0, rfl, fun m u hu => ?_⟩⟩
  have hj : j = 0 := by have := (List.getElem?_eq_some_iff.1 hy).1; simpa using this
  subst hj
  simp at hy; subst hy
  rw [Nat.zero_mul, Nat.zero_add, Lib.cell_of_heap hh, ← hu]
  match m with
  | 0 => rfl
  | m + 1 => rfl
set_option maxRecDepth 100000 in
set_option maxHeartbeats 4000000 in
theorem Drop_any (B b a : Nat) (F : Nat → Prop) (V : Nat → Value) (vs : Value) (c : Cs) (s q : Nat) (p : Int) (X Y : List (Int × Nat)) (w : World) (hW : Hid (Wb B b a F V vs c w)) (hI : Hid (CInv (fun k => k = q) c)) (hs : s = 1 ∨ s = 2) (hR : c.R s = X ++ (p, q) :: Y) (hQ : c.st.Q.length ≤ 100000) :
    Calls Try.prog 44 #[.pointer (some ⟨b, 0, none⟩), .agg #[.int .i64 (s : Int), .int .i64 p]] w (DropPost B b a F V vs (dropC c s q X Y) w) := by
  obtain ⟨W0, eW0⟩ : ∃ W, w.alloc (.cells #[.int .i64 (s : Int), .int .i64 p] 59) = W := ⟨_, rfl⟩
  obtain ⟨g, eg⟩ : ∃ g, w.heap.size = g := ⟨_, rfl⟩
  have b0 : Below w.heap.size w W0 := by rw [← eW0]; exact (Below.refl _ w).alloc (Nat.le_refl _) _
  have hg : W0.heap[g]? = some (.cells #[.int .i64 (s : Int), .int .i64 p] 59 (0, 0)) := by rw [← eW0, ← eg]; exact heap_alloc_new w _
  have hgl : g < W0.heap.size := (Array.getElem?_eq_some_iff.1 hg).1
  have hW0 := hW.out.below b0
  obtain ⟨hp, -, -, -⟩ := bet_rows (hI.out.sort s) hR
  have hRl : (c.R s).length ≤ 100000 := by
    have h1 : (rowQs c).length = c.st.Q.length := by rw [hI.out.part.length_eq, List.length_range]
    unfold rowQs at h1
    rw [List.length_append, List.length_append, List.length_map, List.length_map] at h1
    rcases hs with rfl | rfl <;> omega
  have hbW0 : ∀ X', Below W0.heap.size W0 X' → Wb B b a F V vs c X' ∧ X'.heap[g]? = some (.cells #[.int .i64 (s : Int), .int .i64 p] 59 (0, 0)) ∧ Below w.heap.size w X' := fun X' h => ⟨hW0.below h, (h.block g hgl).trans hg, b0.trans (h.mono b0.size)⟩
  have own0 := hW0.bm.rw s hs
  obtain ⟨gv, capv, curv, ev, -, hgvl, hgv, b3, b4, b5, b6⟩ := own0.open' (by rw [hR]; simp; omega)
  obtain ⟨A, cap, ev2, hv, -, -, -, hA⟩ := own0.slice
  have eA : some ⟨gv, 0, none⟩ = A := by
    have := ev.symm.trans ev2
    injection this
  subst eA
  obtain ⟨n, en⟩ : ∃ n, (c.R s).length = n := ⟨_, rfl⟩
  obtain ⟨k, ek⟩ : ∃ k, X.length = k := ⟨_, rfl⟩
  have hkn : k < n := by rw [← en, ← ek, hR]; simp
  obtain ⟨b', off, eb, x1, x2⟩ := hv.atR (j := k) (x := (p, q)) (by rw [hR, ← ek]; simp)
  injection eb with eb
  injection eb with eb eb2
  subst eb; subst eb2
  simp only [Nat.zero_add] at x2
  have hvW : Hid (∀ X', Below W0.heap.size W0 X' → HV fR X' (some ⟨gv, 0, none⟩) n (c.R s)) := Lib.hid (fun X' h => by rw [← en]; exact hv.below h)
  have hqc : Hid (∀ X', Below W0.heap.size W0 X' → X'.cell? ⟨gv, k * 2 + 1, none⟩ = some (.int .i64 (q : Int))) := Lib.hid (fun X' h => (World.cell?_of_block (a := ⟨gv, k * 2 + 1, none⟩) (h.block gv hgvl)).trans x2)
  have hPl := Lib.hid (fun X' (h : Below W0.heap.size W0 X') => Place_any (some ⟨gv, 0, none⟩) n capv (s : Int) p (c.R s) X' (Lib.hid (hvW.out X' h)) (by omega))
  rw [hp, ek] at hPl
  have hCt := Lib.hid (fun X' (h : Below W0.heap.size W0 X') => Count_any B a F c.st (q : Int) X' (Lib.hid (hbW0 X' h).1.ar) (by omega))
  rw [listO_nat] at hCt
  obtain ⟨x3, -⟩ := hW0.bm.side hs
  rw [ev, en] at x3
  obtain ⟨⟨d0, d1⟩, -⟩ := row2 hg
  have s3 : (s : Int) < 3 := by omega
  obtain ⟨i0, hi0, hz0, hz1, hz2⟩ := info_parts info_int
  replace hbW0 := Lib.hid hbW0
  have bW0 : Hid (Below W0.heap.size W0 W0.drew) := Lib.hid (Below.refl W0.heap.size W0).drew
  have hw0 : (fun W : World => W.cell? ⟨g, 0, none⟩ = some (.int .i64 (s : Int)) ∧ W.cell? ⟨g, 1, none⟩ = some (.int .i64 p) ∧ W.cell? ⟨b, 501 + s, none⟩ = some (.slice (some ⟨gv, 0, none⟩) n capv)) W0.drew := ⟨d0, d1, x3⟩
  have LL : Hid (∀ X', Below W0.heap.size W0 X' → (fun W : World => W.cell? ⟨g, 0, none⟩ = some (.int .i64 (s : Int)) ∧ W.cell? ⟨g, 1, none⟩ = some (.int .i64 p) ∧ W.cell? ⟨b, 501 + s, none⟩ = some (.slice (some ⟨gv, 0, none⟩) n capv)) X') := Lib.hid (fun X' h => by
    obtain ⟨h1, h2, -⟩ := hbW0.out X' h
    obtain ⟨⟨k0, k1⟩, -⟩ := row2 h2
    obtain ⟨k3, -⟩ := h1.bm.side hs
    rw [ev, en] at k3
    exact ⟨k0, k1, k3⟩)
  obtain ⟨l, el⟩ : ∃ l, (lq c.st q).length = l := ⟨_, rfl⟩
  rw [el] at hCt
  replace eW0 := Lib.hid eW0
  replace eg := Lib.hid eg
  replace b0 := Lib.hid b0
  replace ev := Lib.hid ev
  replace en := Lib.hid en
  replace ek := Lib.hid ek
  replace el := Lib.hid el
  replace hR := Lib.hid hR
  have hs' := Lib.hid hs
  clear hg hgl hW0 hp own0 hgvl hgv b3 b5 b6 ev2 hv hA x1 x2 d0 d1 x3 curv
  go_enter Try.func44, Try.ntmps44
  go_upto_region 1 with (fail)
  rw [eW0.out, eg.out]
  go_region_held3 (fun W : World => W.cell? ⟨g, 0, none⟩ = some (.int .i64 (s : Int)) ∧ W.cell? ⟨g, 1, none⟩ = some (.int .i64 p) ∧ W.cell? ⟨b, 501 + s, none⟩ = some (.slice (some ⟨gv, 0, none⟩) n capv)) (first | with_reducible assumption | with_reducible exact hw0 | with_reducible exact z1) ((go_at_call 36; refine (hPl.out _ bW0.out).mono ?_; rintro e w1 ⟨rfl, b1⟩; have B1 : Below W0.heap.size W0 w1 := bW0.out.trans b1; have z1 := LL.out w1 B1; replace B1 := Lib.hid B1))
  clear hw0 bW0
  have bd1 : Hid (Below W0.heap.size W0 w1.drew) := Lib.hid B1.out.drew
  obtain ⟨z0, z1', z2⟩ := z1
  have z3 := hqc.out _ B1.out
  go_wp2_with fail
  go_quiet (fail)
  obtain ⟨x0, -⟩ := (hbW0.out _ B1.out).1.bm.arena
  go_wp2_with fail
  obtain ⟨W4, eW4⟩ : ∃ W, w1.drewN nq = W := ⟨_, rfl⟩
  rw [eW4]
  have B4 : Hid (Below W0.heap.size W0 W4) := Lib.hid (by rw [← eW4]; exact ⟨B1.out.os, B1.out.tape, B1.out.output, B1.out.size, B1.out.block⟩)
  clear eW4 z0 z1' z2 z3 x0 bd1
  have z4 := LL.out _ B4.out
  refine (hCt.out _ B4.out).mono ?_
  rintro e w5 ⟨rfl, rfl⟩
  obtain ⟨hW4, hg4, b4'⟩ := hbW0.out _ B4.out
  by_cases hl0 : l = 0
  · have hq0 : lq c.st q = [] := List.eq_nil_of_length_eq_zero (by rw [el.out]; exact hl0)
    have eD : dropC c s q X Y = { c with R := upd c.R s (X ++ Y), S := c.S ++ [q] } := by unfold dropC; rw [if_pos hq0]
    replace eD := Lib.hid eD
    have zS : (fun W : World => W.cell? ⟨g, 0, none⟩ = some (.int .i64 (s : Int))) W4.drew := z4.1
    have zL : W4.drew.cell? ⟨b, 501 + s, none⟩ = some (.slice (some ⟨gv, 0, none⟩) n capv) := z4.2.2
    have hW5 : Wb B b a F V vs c W4.drew := ⟨hW4.ar.only ⟨rfl, rfl, rfl, Nat.le_refl _, fun _ _ _ => rfl⟩ (fun _ _ e => e), hW4.bm.only ⟨rfl, rfl, rfl, Nat.le_refl _, fun _ _ _ => rfl⟩ (fun _ _ e => e), hW4.far, hW4.lo⟩
    have on4 : Hid (Only (bfoot b V vs) w W4.drew) := Lib.hid ((only_below b4'.drew).mono (fun _ _ e => e.elim))
    have hXY : (c.R s).take k ++ (c.R s).drop (k + 1) = X ++ Y := by rw [hR.out, ← ek.out]; simp
    have hDel : Hid (Calls Try.prog 64 #[.slice (some ⟨gv, 0, none⟩) n capv, .int .i64 (k : Int), .int .i64 ((k : Int) + 1)] W4.drew (InsPost W4.drew (.slice (some ⟨gv, 0, none⟩) n capv) (X ++ Y))) := Lib.hid (by
      have h0 := hW5.bm.rw s hs
      have e0 := ev.out
      rw [en.out] at e0
      have := Delete_any (V s) (c.R s) k W4.drew (Lib.hid h0) hRl (by rw [en.out]; exact hkn)
      rw [hXY, e0] at this
      exact this)
    have gne : g ≠ b := fun e => by have := (hW.out.lt (k := b) (.inr (.inl rfl))).2; have := eg.out; omega
    have gnv : (V s).ownBlock ≠ some g := fun e => by have := hW.out.bm.lt (bfoot_v hs e); have := eg.out; omega
    have bnv : (V s).ownBlock ≠ some b := fun e => (hW.out.bm.vb s hs b e).1 rfl
    have hswap : Hid (∀ (w6 : World) (v6 : Value), Own fR 86 w6 0 v6 (X ++ Y) → Only (fun j => (Value.slice (some ⟨gv, 0, none⟩) n capv).ownBlock = some j) W4.drew w6 → (∀ j, v6.ownBlock = some j → (Value.slice (some ⟨gv, 0, none⟩) n capv).ownBlock = some j ∨ W4.drew.heap.size ≤ j) →
        w6.cell? ⟨g, 0, none⟩ = some (.int .i64 (s : Int)) ∧ w6.cell? ⟨b, 501 + s, none⟩ = some (.slice (some ⟨gv, 0, none⟩) n capv) ∧ w6.frozen? ⟨b, 501 + s, none⟩ = false ∧ (w6.setCell ⟨b, 501 + s, none⟩ v6).cell? ⟨g, 0, none⟩ = some (.int .i64 (s : Int)) ∧
        (Bm b a (updV V s v6) vs (upd c.R s (X ++ Y)) c.T c.S (w6.setCell ⟨b, 501 + s, none⟩ v6) ∧ (∀ k, bfoot b (updV V s v6) vs k → bfoot b V vs k ∨ W4.drew.heap.size ≤ k) ∧ Only (bfoot b V vs) W4.drew (w6.setCell ⟨b, 501 + s, none⟩ v6))) := Lib.hid (fun w6 v6 o6 on6 n6 => by
      have e0 := ev.out
      rw [en.out] at e0
      rw [← e0] at on6 n6
      have h1 := on6.block g (Array.getElem?_eq_some_iff.1 hg4).1 gnv
      have h2 := on6.block b (hW5.bm.lt (.inl rfl)) bnv
      have c1 : w6.cell? ⟨g, 0, none⟩ = some (.int .i64 (s : Int)) := (World.cell?_of_block (a := ⟨g, 0, none⟩) h1).trans zS
      refine ⟨c1, (World.cell?_of_block (a := ⟨b, 501 + s, none⟩) h2).trans zL, (World.frozen?_of_block (a := ⟨b, 501 + s, none⟩) h2).trans (hW5.bm.side hs).2, ?_, hW5.bm.swapSide hs on6 o6 n6⟩
      exact (World.cell?_of_block (a := ⟨g, 0, none⟩) (heap_setCell_other w6 ⟨b, 501 + s, none⟩ g v6 gne)).trans c1)
    have hSl : Hid (c.S.length + 1 ≤ 1000000) := Lib.hid (by
      have h1 : (rowQs c).length = c.st.Q.length := by rw [hI.out.part.length_eq, List.length_range]
      unfold rowQs at h1
      rw [List.length_append] at h1
      omega)
    have hkb : k ≤ 100000 := by have := en.out; omega
    have hd1 : IntKind.i64.wrap ((k : Int) + 1) = (k : Int) + 1 := IntWalk.i64_in _ (by omega)
    subst hl0
    clear z4 hW4 hg4 b4' hXY hCt hPl LL hqc hvW hbW0
    replace hW5 := Lib.hid hW5
    replace hs := Lib.hid hs
    replace gne := Lib.hid gne
    replace gnv := Lib.hid gnv
    replace bnv := Lib.hid bnv
    replace hq0 := Lib.hid hq0
    go_upto_region 4 with (fail)
    refine wp_region_held_drew (S := (fun W : World => W.cell? ⟨g, 0, none⟩ = some (.int .i64 (s : Int)))) (by rfl) zS (fun hHeld => ?_)
    obtain ⟨W5, eW5⟩ : ∃ W, W4.drew = W := ⟨_, rfl⟩
    rw [eW5]
    rw [eW5] at hHeld zS zL hDel hswap on4
    clear eW5
    refine wpAnyH_take (i := 0) (v := .pointer (some ⟨b, 0, none⟩)) rfl (by kernel_rfl) (by kernel_rfl) (by kernel_rfl) (fun _ _ _ h => h) (Or.inl ⟨by kernel_rfl, fun W hSw => ?_⟩) (by assumption) ?_
    · (try dsimp only at hSw)
      go_simp
    (try simp only [Act.put, List.setIfInBounds_toArray, List.set_cons_zero, List.set_cons_succ])
    refine wpAnyH_take (i := 1) (v := .pointer (some ⟨g, 0, none⟩)) rfl (by kernel_rfl) (by kernel_rfl) (by kernel_rfl) (fun _ _ _ h => h) (Or.inl ⟨by kernel_rfl, fun W hSw => ?_⟩) (by assumption) ?_
    · (try dsimp only at hSw)
      go_simp
    (try simp only [Act.put, List.setIfInBounds_toArray, List.set_cons_zero, List.set_cons_succ])
    refine wpAnyH_take (i := 2) (v := .int .i64 (s : Int)) rfl (by kernel_rfl) (by kernel_rfl) (by kernel_rfl) (fun _ _ _ h => h) (Or.inl ⟨by kernel_rfl, fun W hSw => ?_⟩) (by assumption) ?_
    · (try dsimp only at hSw)
      go_simp
    (try simp only [Act.put, List.setIfInBounds_toArray, List.set_cons_zero, List.set_cons_succ])
    refine wpAnyH_take (i := 3) (v := .pointer (some ⟨b, 0, none⟩)) rfl (by kernel_rfl) (by kernel_rfl) (by kernel_rfl) (fun _ _ _ h => h) (Or.inl ⟨by kernel_rfl, fun W hSw => ?_⟩) (by assumption) ?_
    · (try dsimp only at hSw)
      go_simp
    (try simp only [Act.put, List.setIfInBounds_toArray, List.set_cons_zero, List.set_cons_succ])
    refine wpAnyH_take (i := 4) (v := .pointer (some ⟨g, 0, none⟩)) rfl (by kernel_rfl) (by kernel_rfl) (by kernel_rfl) (fun _ _ _ h => h) (Or.inl ⟨by kernel_rfl, fun W hSw => ?_⟩) (by assumption) ?_
    · (try dsimp only at hSw)
      go_simp
    (try simp only [Act.put, List.setIfInBounds_toArray, List.set_cons_zero, List.set_cons_succ])
    refine wpAnyH_take (i := 5) (v := .int .i64 (s : Int)) rfl (by kernel_rfl) (by kernel_rfl) (by kernel_rfl) (fun _ _ _ h => h) (Or.inl ⟨by kernel_rfl, fun W hSw => ?_⟩) (by assumption) ?_
    · (try dsimp only at hSw)
      go_simp
    (try simp only [Act.put, List.setIfInBounds_toArray, List.set_cons_zero, List.set_cons_succ])
    refine wpAnyH_take (i := 6) (v := .pointer (some ⟨b, 0, none⟩)) rfl (by kernel_rfl) (by kernel_rfl) (by kernel_rfl) (fun _ _ _ h => h) (Or.inl ⟨by kernel_rfl, fun W hSw => ?_⟩) (by assumption) ?_
    · (try dsimp only at hSw)
      go_simp
    (try simp only [Act.put, List.setIfInBounds_toArray, List.set_cons_zero, List.set_cons_succ])
    refine wpAnyH_take (i := 7) (v := .pointer (some ⟨b, 501, none⟩)) rfl (by kernel_rfl) (by kernel_rfl) (by kernel_rfl) (fun _ _ _ h => h) (Or.inl ⟨by kernel_rfl, fun W hSw => ?_⟩) (by assumption) ?_
    · (try dsimp only at hSw)
      go_simp
    (try simp only [Act.put, List.setIfInBounds_toArray, List.set_cons_zero, List.set_cons_succ])
    refine wpAnyH_take (i := 8) (v := .pointer (some ⟨b, 501 + s, none⟩)) rfl (by kernel_rfl) (by kernel_rfl) (by kernel_rfl) (fun _ _ _ h => h) (Or.inl ⟨by kernel_rfl, fun W hSw => ?_⟩) (by assumption) ?_
    · (try dsimp only at hSw)
      go_simp
    (try simp only [Act.put, List.setIfInBounds_toArray, List.set_cons_zero, List.set_cons_succ])
    refine wpAnyH_take (i := 10) (v := .int .i64 (k : Int)) rfl (by kernel_rfl) (by kernel_rfl) (by kernel_rfl) (fun _ _ _ h => h) (Or.inl ⟨by kernel_rfl, fun W hSw => ?_⟩) (by assumption) ?_
    · (try dsimp only at hSw)
      go_simp
    (try simp only [Act.put, List.setIfInBounds_toArray, List.set_cons_zero, List.set_cons_succ])
    refine wpAnyH_take (i := 11) (v := .int .i64 (k : Int)) rfl (by kernel_rfl) (by kernel_rfl) (by kernel_rfl) (fun _ _ _ h => h) (Or.inl ⟨by kernel_rfl, fun W hSw => ?_⟩) (by assumption) ?_
    · (try dsimp only at hSw)
      go_simp
    (try simp only [Act.put, List.setIfInBounds_toArray, List.set_cons_zero, List.set_cons_succ])
    refine wpAnyH_take (i := 12) (v := .int .i64 ((k : Int) + 1)) rfl (by kernel_rfl) (by kernel_rfl) (by kernel_rfl) (fun _ _ _ h => h) (Or.inl ⟨by kernel_rfl, fun W hSw => ?_⟩) (by assumption) ?_
    · (try dsimp only at hSw)
      go_simp
    (try simp only [Act.put, List.setIfInBounds_toArray, List.set_cons_zero, List.set_cons_succ])
    refine wpAnyH_take (i := 14) (v := .pointer (some ⟨b, 0, none⟩)) rfl (by kernel_rfl) (by kernel_rfl) (by kernel_rfl) (fun _ _ _ h => h) (Or.inl ⟨by kernel_rfl, fun W hSw => ?_⟩) (by assumption) ?_
    · (try dsimp only at hSw)
      go_simp
    (try simp only [Act.put, List.setIfInBounds_toArray, List.set_cons_zero, List.set_cons_succ])
    refine wpAnyH_take (i := 15) (v := .pointer (some ⟨b, 501, none⟩)) rfl (by kernel_rfl) (by kernel_rfl) (by kernel_rfl) (fun _ _ _ h => h) (Or.inl ⟨by kernel_rfl, fun W hSw => ?_⟩) (by assumption) ?_
    · (try dsimp only at hSw)
      go_simp
    (try simp only [Act.put, List.setIfInBounds_toArray, List.set_cons_zero, List.set_cons_succ])
    refine wpAnyH_ready (rs := [9]) (by kernel_rfl) (by simp) ?_
    refine AllReadyH.cons rfl (fun K hK => ?_) AllReadyH.nil
    go_simp
    refine hK.out _ _ zS (fun hHeld => ?_)
    clear hK K
    (try simp only [Act.put, List.setIfInBounds_toArray, List.set_cons_zero, List.set_cons_succ])
    refine wpAnyH_ready (rs := [13]) (by kernel_rfl) (by simp) ?_
    refine AllReadyH.cons rfl (fun K hK => ?_) AllReadyH.nil
    go_simp
    refine hDel.out.mono ?_
    rintro e w6 ⟨v6, rfl, o6, on6, n6⟩
    obtain ⟨A6, c6, e6, -, -, -, -, -⟩ := o6.slice
    obtain ⟨l6, el6⟩ : ∃ n, (X ++ Y).length = n := ⟨_, rfl⟩
    rw [el6] at e6
    subst e6
    replace el6 := Lib.hid el6
    have m6 := Lib.hid (hswap.out w6 _ o6 on6 n6)
    have z6 := (m6.out).1
    have y6 := (m6.out).2.1
    have f6 := (m6.out).2.2.1
    go_wp2_with fail
    refine hK.out _ _ z6 (fun hHeld => ?_)
    clear hK K
    (try simp only [Act.put, List.setIfInBounds_toArray, List.set_cons_zero, List.set_cons_succ])
    refine wpAnyH_take (i := 16) (v := .pointer (some ⟨b, 501 + s, none⟩)) rfl (by kernel_rfl) (by kernel_rfl) (by kernel_rfl) (fun _ _ _ h => h) (Or.inl ⟨by kernel_rfl, fun W hSw => ?_⟩) (by assumption) ?_
    · (try dsimp only at hSw)
      go_simp
    (try simp only [Act.put, List.setIfInBounds_toArray, List.set_cons_zero, List.set_cons_succ])
    refine wpAnyH_ready (rs := [17]) (by kernel_rfl) (by simp) ?_
    refine AllReadyH.cons rfl (fun K hK => ?_) AllReadyH.nil
    have z7 := (m6.out).2.2.2.1
    go_simp
    refine hK.out _ _ z7 (fun hHeld => ?_)
    clear hK K
    (try simp only [Act.put, List.setIfInBounds_toArray, List.set_cons_zero, List.set_cons_succ])
    refine wpAnyH_done (by kernel_rfl) ?_ _
    have mm := Lib.hid (m6.out.2.2.2.2)
    clear m6 z6 y6 f6 o6 on6 n6 z7
    obtain ⟨W7, eW7⟩ : ∃ W, w6.setCell ⟨b, 501 + s, none⟩ (.slice A6 l6 c6) = W := ⟨_, rfl⟩
    rw [eW7] at mm ⊢
    obtain ⟨bm7, ft7, on7⟩ := mm.out
    obtain ⟨x7, y7⟩ := bm7.spare
    have sp7 := bm7.sp
    replace bm7 := Lib.hid bm7
    replace ft7 := Lib.hid ft7
    replace on7 := Lib.hid on7
    clear eW7 mm
    obtain ⟨W8, eW8⟩ : ∃ W, W7.alloc (.cells #[.int .i64 (q : Int)] 3) = W := ⟨_, rfl⟩
    have b8 : Below W7.heap.size W7 W8 := by rw [← eW8]; exact (Below.refl _ _).alloc (Nat.le_refl _) _
    have hv8 := Lib.hid (hv_oneN (q := q) (show W8.heap[W7.heap.size]? = some (.cells #[.int .i64 (q : Int)] 3 (0, 0)) by rw [← eW8]; exact heap_alloc_new W7 _))
    have sp8 := Lib.hid (sp7.below b8)
    have bm8 := Lib.hid (bm7.out.below b8)
    have x8 : W8.cell? ⟨b, 504, none⟩ = some vs := bm8.out.spare.1
    have on8 : Hid (Only (bfoot b V vs) w W8) := Lib.hid ((on4.out.trans on7.out).step (only_below b8) (fun _ _ e => e.elim))
    have ft8 : Hid (∀ j, bfoot b (updV V s (.slice A6 l6 c6)) vs j → bfoot b V vs j ∨ w.heap.size ≤ j) := Lib.hid (fun j hj => by
      rcases ft7.out j hj with e | e
      · exact .inl e
      · have := on4.out.size; exact .inr (by omega))
    replace b8 := Lib.hid b8
    clear sp7 bm7 on7 ft7
    go_wp2_with (at_builtin; refine wpList_onto_g (fm := fN) (T := 3) rfl (.tmp 61) (.tmp 63) 63 rfl 0 i0 (.int .i64 0) 8 Try.underlying63 hi0 hz0 hz1 hz2 rfl (by decide) vs c.S rfl sp8.out (some ⟨W7.heap.size, 0, none⟩) 1 1 [q] rfl hv8.out (fun e => by cases e) hSl.out (Nat.zero_le _) ?_)
    intro v9 w9 o9 g9 k9
    obtain ⟨A9, c9, e9, -, -, -, -, -⟩ := o9.slice
    obtain ⟨l9, el9⟩ : ∃ n, (c.S ++ [q]).length = n := ⟨_, rfl⟩
    rw [el9] at e9
    subst e9
    replace el9 := Lib.hid el9
    have fin := bm8.out.swapSpare (only_grown g9 |>.mono (fun j _ e => e.symm)) o9 (fun j hj => by
      rcases k9 with e | e
      · exact .inl (e ▸ hj)
      · rw [e] at hj; injection hj with hj; exact .inr (by omega))
    obtain ⟨x9, y9⟩ : w9.cell? ⟨b, 504, none⟩ = some vs ∧ w9.frozen? ⟨b, 504, none⟩ = false := by
      have hb8 : b < W8.heap.size := bm8.out.lt (.inl rfl)
      have hnb : some b ≠ vs.ownBlock := fun e => bm8.out.sb b e.symm rfl
      have hbl := g9.block b hb8 hnb
      exact ⟨(World.cell?_of_block (a := ⟨b, 504, none⟩) hbl).trans x8, (World.frozen?_of_block (a := ⟨b, 504, none⟩) hbl).trans bm8.out.spare.2⟩
    replace fin := Lib.hid fin
    clear o9 g9 k9 x8 sp8 hv8
    go_wp2_with fail
    go_end0
    obtain ⟨f1, f2, f3⟩ := fin.out
    rw [eD.out]
    have hnew : ∀ j, bfoot b (updV V s (.slice A6 l6 c6)) (.slice A9 l9 c9) j → bfoot b V vs j ∨ w.heap.size ≤ j := fun j hj => by
      rcases f2 j hj with e | e
      · exact ft8.out j e
      · have := on8.out.size; exact .inr (by omega)
    have on9 : Only (bfoot b V vs) w (w9.setCell ⟨b, 504, none⟩ (.slice A9 l9 c9)) := on8.out.step f3 (fun j hj e => (ft8.out j e).resolve_right (by omega))
    refine ⟨updV V s (.slice A6 l6 c6), (.slice A9 l9 c9), rfl, ⟨hW.out.ar.only on9 (fun j hj e => hW.out.far j hj e), f1, fun j hj e => ?_, fun j hj => ?_⟩, on9, hnew⟩
    · rcases hnew j e with e2 | e2
      · exact hW.out.far j hj e2
      · have := (hW.out.lt (k := j) (.inl hj)).2; omega
    · rcases hnew j hj with e2 | e2
      · exact hW.out.lo j e2
      · have := hW.out.size; omega
  · have hq0 : lq c.st q ≠ [] := fun e => hl0 (by rw [← el.out, e]; rfl)
    have eD : dropC c s q X Y = c := by unfold dropC; rw [if_neg hq0]
    have d9 : (0 : Int) < (l : Int) := by omega
    replace eD := Lib.hid eD
    have fin : Hid (Only (bfoot b V vs) w W4) := Lib.hid ((only_below b4').mono (fun _ _ e => e.elim))
    replace hW4 := Lib.hid hW4
    clear z4 hg4 b4' hCt hPl LL hqc hvW hbW0 hq0
    go_wp2_with fail
    go_end0
    rw [eD.out]
    exact ⟨V, vs, rfl, hW4.out, fin.out, fun j hj => .inl hj⟩
end Go.Proofs.Ytlknlicokacoiaa
