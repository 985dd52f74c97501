/-
  Contract of the law package: do: both books are asked the same, and tell the same.
-/
import Derived.Test.YtlknlicokacoiaaRAdd
import Derived.Test.YtlknlicokacoiaaBkLike
import Derived.Test.YtlknlicokacoiaaBkKnown
import Derived.Test.YtlknlicokacoiaaOpenAsk9
namespace Go.Proofs.Ytlknlicokacoiaa
open Go.RowKit
set_option linter.unusedVariables false
set_option linter.unusedSimpArgs false
set_option linter.constructorNameAsVariable false

/-- The program's book and the document's, apart, with the same orders. -/
structure PairAt (B B2 b d : Nat) (G : Nat → Prop) (v : Value) (L : List Or) (w : World) : Prop where
  k : BK B b G L w
  r : Rm B2 d v L w
  far : ∀ j, G j → ¬ rfoot d v j
  le : B ≤ B2
section
variable {B B2 b d : Nat} {G : Nat → Prop} {v : Value} {L : List Or} {w w' : World}
theorem PairAt.below (h : PairAt B B2 b d G v L w) (hb : Below w.heap.size w w') : PairAt B B2 b d G v L w' := ⟨h.k.below hb, h.r.below hb, h.far, h.le⟩
theorem PairAt.only {p : Nat → Prop} (h : PairAt B B2 b d G v L w) (ho : Only p w w') (hp : ∀ k, G k ∨ rfoot d v k → ¬ p k) : PairAt B B2 b d G v L w' := ⟨h.k.only ho (fun k hk => hp k (.inl hk)), h.r.only ho (fun k hk => hp k (.inr hk)), h.far, h.le⟩
theorem PairAt.fit (h : PairAt B B2 b d G v L w) : ∀ x ∈ L, 1 ≤ x.n ∧ x.n ≤ 1000000 := fun x hx => ⟨(h.k.lok.fit x hx).2.1, (h.k.lok.fit x hx).2.2.1⟩
end
def doO (L : List Or) (x : Ask) : List Or := if x.k = 1 then (addO L x.i x.s x.p x.n).2 else (fillO L x.i x.n).2
def DidP (B B2 b d : Nat) (G : Nat → Prop) (v : Value) (L : List Or) (w : World) (e : Ending) (w' : World) : Prop :=
  ∃ G' v', e = .returned (.bool true) ∧ PairAt B B2 b d G' v' L w' ∧ Only (fun j => G j ∨ rfoot d v j) w w' ∧ (∀ j, G' j → G j ∨ w.heap.size ≤ j) ∧ (∀ j, rfoot d v' j → rfoot d v j ∨ w.heap.size ≤ j)
theorem PairAt.did {B B2 b d : Nat} {G : Nat → Prop} {v : Value} {L : List Or} {w w' : World} (h : PairAt B B2 b d G v L w) (o : Only (fun j => G j ∨ rfoot d v j) w w') : Below B w w' :=
  o.below h.k.size (fun j hj e => e.elim (fun e => by have := (h.k.lt e).1; omega) (fun e => by have := (h.r.lt e).1; have := h.le; omega))
/-- One after the other. -/
theorem pair_step {B B2 b d : Nat} {G G1 : Nat → Prop} {v v1 : Value} {L L1 : List Or} {w w1 w2 : World} (h : PairAt B B2 b d G v L w) (k1 : BK B b G1 L1 w1) (o1 : Only G w w1) (n1 : ∀ j, G1 j → G j ∨ w.heap.size ≤ j) (r2 : Rm B2 d v1 L1 w2) (o2 : Only (fun j => j = d) w1 w2) (n2 : ∀ j, rfoot d v1 j → rfoot d v j ∨ w1.heap.size ≤ j) :
    PairAt B B2 b d G1 v1 L1 w2 ∧ Only (fun j => G j ∨ rfoot d v j) w w2 ∧ (∀ j, G1 j → G j ∨ w.heap.size ≤ j) ∧ (∀ j, rfoot d v1 j → rfoot d v j ∨ w.heap.size ≤ j) := by
  have hs := o1.size
  refine ⟨⟨k1.only o2 (fun j hj e => ?_), r2, fun j hj e => ?_, h.le⟩, ?_, n1, fun j hj => (n2 j hj).imp id (fun q => by omega)⟩
  · have e' : j = d := e
    rcases n1 j hj with q | q
    · exact h.far j q (.inl e')
    · have := (h.r.lt (.inl rfl)).2; omega
  · have h1 := (k1.lt hj).2
    rcases n2 j e with q | q
    · rcases n1 j hj with q2 | q2
      · exact h.far j q2 q
      · have := (h.r.lt q).2; omega
    · omega
  · exact (o1.mono (fun _ _ e => .inl e)).trans (o2.mono (fun j _ e => .inr (.inl e)))
set_option maxRecDepth 100000 in
set_option maxHeartbeats 8000000 in
theorem LDo_any (B B2 b d : Nat) (G : Nat → Prop) (v : Value) (L : List Or) (x : Ask) (w : World) (h0 : Hid (PairAt B B2 b d G v L w)) (hx : Hid x.Ok) :
    Calls Try.prog 11 #[.pointer (some ⟨b, 0, none⟩), .pointer (some ⟨d, 0, none⟩), x.val] w (DidP B B2 b d G v (doO L x) w) := by
  obtain ⟨kk, s, i, p, n⟩ := x
  obtain ⟨W0, eW0⟩ : ∃ W, w.alloc (.cells #[.int .i64 kk, .int .i64 s, .int .i64 i, .int .i64 p, .int .i64 n] 29) = W := ⟨_, rfl⟩
  obtain ⟨g, eg⟩ : ∃ g, w.heap.size = g := ⟨_, rfl⟩
  have hb : Below w.heap.size w W0 := by rw [← eW0]; exact (Below.refl _ _).alloc (Nat.le_refl _) _
  have h1 := Lib.hid (h0.out.below hb)
  have hg : Hid (W0.heap[g]? = some (.cells #[.int .i64 kk, .int .i64 s, .int .i64 i, .int .i64 p, .int .i64 n] 29 (0, 0))) := Lib.hid (by rw [← eW0, ← eg]; exact heap_alloc_new w _)
  have hgf : Hid (∀ j, G j ∨ rfoot d v j → j < g) := Lib.hid (fun j hj => by rw [← eg]; exact hj.elim (fun e => (h0.out.k.lt e).2) (fun e => (h0.out.r.lt e).2))
  have hgs : Hid (g < W0.heap.size) := Lib.hid (Array.getElem?_eq_some_iff.1 hg.out).1
  have hw0 : Hid (Only (fun _ => False) w W0 ∧ w.heap.size = g) := Lib.hid ⟨only_below hb, eg⟩
  show Calls Try.prog _ #[_, _, .agg #[.int .i64 kk, .int .i64 s, .int .i64 i, .int .i64 p, .int .i64 n]] _ _
  obtain ⟨xk, xs, xi, xp, xn⟩ := hx.out
  simp only at xk xs xi xp xn
  obtain ⟨⟨y0, y1, y2, y3, y4⟩, -⟩ := row5 hg.out
  have fin : Hid (∀ (G1 : Nat → Prop) (v1 : Value) (L1 : List Or) (w1 w2 w3 : World), BK B b G1 L1 w1 → Only G W0 w1 → (∀ j, G1 j → G j ∨ W0.heap.size ≤ j) → Rm B2 d v1 L1 w2 → Only (fun j => j = d) w1 w2 → (∀ j, rfoot d v1 j → rfoot d v j ∨ w1.heap.size ≤ j) → Below w2.heap.size w2 w3 → L1 = doO L ⟨kk, s, i, p, n⟩ → DidP B B2 b d G v (doO L ⟨kk, s, i, p, n⟩) w (.returned (.bool true)) w3) := Lib.hid (fun G1 v1 L1 w1 w2 w3 k1 o1 n1 r2 o2 n2 b3 eL => by
    obtain ⟨q1, q2, q3, q4⟩ := pair_step h1.out k1 o1 n1 r2 o2 n2
    have hs := hw0.out.1.size
    subst eL
    exact ⟨G1, v1, rfl, q1.below b3, ((hw0.out.1.mono (fun _ _ e => e.elim)).trans q2).trans ((only_below b3).mono (fun _ _ e => e.elim)), fun j hj => (q3 j hj).imp id (fun q => by omega), fun j hj => (q4 j hj).imp id (fun q => by omega)⟩)
  have hI : Hid (I64 i ∧ I64 p ∧ I64 n) := Lib.hid ⟨xi, xp, xn⟩
  replace eW0 := Lib.hid eW0
  replace eg := Lib.hid eg
  clear hb h0 hx xk xs xi xp xn
  by_cases hk : kk = 1
  · subst hk
    have h1d : Hid (PairAt B B2 b d G v L W0.drew) := Lib.hid (h1.out.below ⟨rfl, rfl, rfl, Nat.le_refl _, fun _ _ => rfl⟩)
    have HAd := BAdd_any B b G L i s p n W0.drew (Lib.hid h1d.out.k) (Lib.hid hI.out.1) (Lib.hid hI.out.2.1)
    have hL := h1.out.k.lok.room
    have eL0 : (addO L i s p n).2 = doO L ⟨1, s, i, p, n⟩ := rfl
    obtain ⟨⟨f, L1⟩, ep⟩ : ∃ q, addO L i s p n = q := ⟨_, rfl⟩
    rw [ep] at HAd eL0
    have eL := Lib.hid eL0
    replace HAd := Lib.hid HAd
    have df : (f == f) = true := by simp
    have keep : Hid (∀ W : World, Only (fun j => G j ∨ rfoot d v j) W0.drew W → (fun W : World => W.cell? ⟨g, 1, none⟩ = some (.int .i64 s) ∧ W.cell? ⟨g, 2, none⟩ = some (.int .i64 i) ∧ W.cell? ⟨g, 3, none⟩ = some (.int .i64 p) ∧ W.cell? ⟨g, 4, none⟩ = some (.int .i64 n)) W) := Lib.hid (fun W ho => by
      obtain ⟨⟨-, q1, q2, q3, q4⟩, -⟩ := row5 ((ho.block g hgs.out (fun e => by have := hgf.out g e; omega)).trans hg.out)
      exact ⟨q1, q2, q3, q4⟩)
    have z0 := keep.out W0.drew (Only.refl _ _)
    simp only at z0
    clear y0 y1 y2 y3 y4 eL0
    have y0 : W0.cell? ⟨g, 0, none⟩ = some (.int .i64 1) := by rw [Lib.cell_of_heap hg.out]; rfl
    go_enter Try.func11, Try.ntmps11
    go_upto_region 1 with (fail)
    rw [eW0.out, eg.out]
    go_upto_region 2 with (fail)
    clear y0
    refine wp_region_held_drew (S := (fun W : World => W.cell? ⟨g, 1, none⟩ = some (.int .i64 s) ∧ W.cell? ⟨g, 2, none⟩ = some (.int .i64 i) ∧ W.cell? ⟨g, 3, none⟩ = some (.int .i64 p) ∧ W.cell? ⟨g, 4, none⟩ = some (.int .i64 n))) (by kernel_rfl) z0 (fun hHeld => ?_)
    refine wpAnyH_take (i := 0) (v := .pointer (some ⟨b, 0, none⟩)) rfl (by kernel_rfl) (by kernel_rfl) (by kernel_rfl) (fun _ _ _ h => h) (Or.inl ⟨by kernel_rfl, fun W hSw => ?_⟩) (by assumption) ?_
    · (try dsimp only at hSw)
      go_simp
    (try simp only [Act.put, List.setIfInBounds_toArray, List.set_cons_zero, List.set_cons_succ])
    refine wpAnyH_take (i := 1) (v := .pointer (some ⟨g, 2, none⟩)) rfl (by kernel_rfl) (by kernel_rfl) (by kernel_rfl) (fun _ _ _ h => h) (Or.inl ⟨by kernel_rfl, fun W hSw => ?_⟩) (by assumption) ?_
    · (try dsimp only at hSw)
      go_simp
    (try simp only [Act.put, List.setIfInBounds_toArray, List.set_cons_zero, List.set_cons_succ])
    refine wpAnyH_take (i := 2) (v := .int .i64 i) rfl (by kernel_rfl) (by kernel_rfl) (by kernel_rfl) (fun _ _ _ h => h) (Or.inl ⟨by kernel_rfl, fun W hSw => ?_⟩) (by assumption) ?_
    · (try dsimp only at hSw)
      go_simp
    (try simp only [Act.put, List.setIfInBounds_toArray, List.set_cons_zero, List.set_cons_succ])
    refine wpAnyH_take (i := 3) (v := .pointer (some ⟨g, 1, none⟩)) rfl (by kernel_rfl) (by kernel_rfl) (by kernel_rfl) (fun _ _ _ h => h) (Or.inl ⟨by kernel_rfl, fun W hSw => ?_⟩) (by assumption) ?_
    · (try dsimp only at hSw)
      go_simp
    (try simp only [Act.put, List.setIfInBounds_toArray, List.set_cons_zero, List.set_cons_succ])
    refine wpAnyH_take (i := 4) (v := .int .i64 s) rfl (by kernel_rfl) (by kernel_rfl) (by kernel_rfl) (fun _ _ _ h => h) (Or.inl ⟨by kernel_rfl, fun W hSw => ?_⟩) (by assumption) ?_
    · (try dsimp only at hSw)
      go_simp
    (try simp only [Act.put, List.setIfInBounds_toArray, List.set_cons_zero, List.set_cons_succ])
    refine wpAnyH_take (i := 5) (v := .pointer (some ⟨g, 3, none⟩)) rfl (by kernel_rfl) (by kernel_rfl) (by kernel_rfl) (fun _ _ _ h => h) (Or.inl ⟨by kernel_rfl, fun W hSw => ?_⟩) (by assumption) ?_
    · (try dsimp only at hSw)
      go_simp
    (try simp only [Act.put, List.setIfInBounds_toArray, List.set_cons_zero, List.set_cons_succ])
    refine wpAnyH_take (i := 6) (v := .int .i64 p) rfl (by kernel_rfl) (by kernel_rfl) (by kernel_rfl) (fun _ _ _ h => h) (Or.inl ⟨by kernel_rfl, fun W hSw => ?_⟩) (by assumption) ?_
    · (try dsimp only at hSw)
      go_simp
    (try simp only [Act.put, List.setIfInBounds_toArray, List.set_cons_zero, List.set_cons_succ])
    refine wpAnyH_take (i := 7) (v := .pointer (some ⟨g, 4, none⟩)) rfl (by kernel_rfl) (by kernel_rfl) (by kernel_rfl) (fun _ _ _ h => h) (Or.inl ⟨by kernel_rfl, fun W hSw => ?_⟩) (by assumption) ?_
    · (try dsimp only at hSw)
      go_simp
    (try simp only [Act.put, List.setIfInBounds_toArray, List.set_cons_zero, List.set_cons_succ])
    refine wpAnyH_take (i := 8) (v := .int .i64 n) rfl (by kernel_rfl) (by kernel_rfl) (by kernel_rfl) (fun _ _ _ h => h) (Or.inl ⟨by kernel_rfl, fun W hSw => ?_⟩) (by assumption) ?_
    · (try dsimp only at hSw)
      go_simp
    (try simp only [Act.put, List.setIfInBounds_toArray, List.set_cons_zero, List.set_cons_succ])
    refine wpAnyH_take (i := 10) (v := .pointer (some ⟨d, 0, none⟩)) rfl (by kernel_rfl) (by kernel_rfl) (by kernel_rfl) (fun _ _ _ h => h) (Or.inl ⟨by kernel_rfl, fun W hSw => ?_⟩) (by assumption) ?_
    · (try dsimp only at hSw)
      go_simp
    (try simp only [Act.put, List.setIfInBounds_toArray, List.set_cons_zero, List.set_cons_succ])
    refine wpAnyH_take (i := 11) (v := .pointer (some ⟨g, 2, none⟩)) rfl (by kernel_rfl) (by kernel_rfl) (by kernel_rfl) (fun _ _ _ h => h) (Or.inl ⟨by kernel_rfl, fun W hSw => ?_⟩) (by assumption) ?_
    · (try dsimp only at hSw)
      go_simp
    (try simp only [Act.put, List.setIfInBounds_toArray, List.set_cons_zero, List.set_cons_succ])
    refine wpAnyH_take (i := 12) (v := .int .i64 i) rfl (by kernel_rfl) (by kernel_rfl) (by kernel_rfl) (fun _ _ _ h => h) (Or.inl ⟨by kernel_rfl, fun W hSw => ?_⟩) (by assumption) ?_
    · (try dsimp only at hSw)
      go_simp
    (try simp only [Act.put, List.setIfInBounds_toArray, List.set_cons_zero, List.set_cons_succ])
    refine wpAnyH_take (i := 13) (v := .pointer (some ⟨g, 1, none⟩)) rfl (by kernel_rfl) (by kernel_rfl) (by kernel_rfl) (fun _ _ _ h => h) (Or.inl ⟨by kernel_rfl, fun W hSw => ?_⟩) (by assumption) ?_
    · (try dsimp only at hSw)
      go_simp
    (try simp only [Act.put, List.setIfInBounds_toArray, List.set_cons_zero, List.set_cons_succ])
    refine wpAnyH_take (i := 14) (v := .int .i64 s) rfl (by kernel_rfl) (by kernel_rfl) (by kernel_rfl) (fun _ _ _ h => h) (Or.inl ⟨by kernel_rfl, fun W hSw => ?_⟩) (by assumption) ?_
    · (try dsimp only at hSw)
      go_simp
    (try simp only [Act.put, List.setIfInBounds_toArray, List.set_cons_zero, List.set_cons_succ])
    refine wpAnyH_take (i := 15) (v := .pointer (some ⟨g, 3, none⟩)) rfl (by kernel_rfl) (by kernel_rfl) (by kernel_rfl) (fun _ _ _ h => h) (Or.inl ⟨by kernel_rfl, fun W hSw => ?_⟩) (by assumption) ?_
    · (try dsimp only at hSw)
      go_simp
    (try simp only [Act.put, List.setIfInBounds_toArray, List.set_cons_zero, List.set_cons_succ])
    refine wpAnyH_take (i := 16) (v := .int .i64 p) rfl (by kernel_rfl) (by kernel_rfl) (by kernel_rfl) (fun _ _ _ h => h) (Or.inl ⟨by kernel_rfl, fun W hSw => ?_⟩) (by assumption) ?_
    · (try dsimp only at hSw)
      go_simp
    (try simp only [Act.put, List.setIfInBounds_toArray, List.set_cons_zero, List.set_cons_succ])
    refine wpAnyH_take (i := 17) (v := .pointer (some ⟨g, 4, none⟩)) rfl (by kernel_rfl) (by kernel_rfl) (by kernel_rfl) (fun _ _ _ h => h) (Or.inl ⟨by kernel_rfl, fun W hSw => ?_⟩) (by assumption) ?_
    · (try dsimp only at hSw)
      go_simp
    (try simp only [Act.put, List.setIfInBounds_toArray, List.set_cons_zero, List.set_cons_succ])
    refine wpAnyH_take (i := 18) (v := .int .i64 n) rfl (by kernel_rfl) (by kernel_rfl) (by kernel_rfl) (fun _ _ _ h => h) (Or.inl ⟨by kernel_rfl, fun W hSw => ?_⟩) (by assumption) ?_
    · (try dsimp only at hSw)
      go_simp
    (try simp only [Act.put, List.setIfInBounds_toArray, List.set_cons_zero, List.set_cons_succ])
    refine wpAnyH_ready (rs := [9]) (by kernel_rfl) (by simp) ?_
    refine AllReadyH.cons rfl (fun K hK => ?_) AllReadyH.nil
    go_simp
    refine HAd.out.mono ?_
    rintro e w1 ⟨G1, rfl, k1, o1, n1⟩
    have z1 := keep.out w1 (o1.mono (fun _ _ e => .inl e))
    have HR := RAdd_any B2 d v L i s p n w1 (Lib.hid (h1d.out.r.only o1 (fun j hj e => h1d.out.far j e hj))) (by omega)
    rw [ep] at HR
    replace HR := Lib.hid HR
    replace k1 := Lib.hid k1
    replace o1 := Lib.hid o1
    replace n1 := Lib.hid n1
    refine hK.out _ _ z1 (fun hHeld => ?_)
    clear hK K
    (try simp only [Act.put, List.setIfInBounds_toArray, List.set_cons_zero, List.set_cons_succ])
    refine wpAnyH_ready (rs := [19]) (by kernel_rfl) (by simp) ?_
    refine AllReadyH.cons rfl (fun K hK => ?_) AllReadyH.nil
    go_simp
    refine HR.out.mono ?_
    rintro e w2 ⟨v2, rfl, r2, o2, n2⟩
    have z2 := keep.out w2 ((o1.out.mono (fun _ _ e => .inl e)).trans (o2.mono (fun j _ e => .inr (.inl e))))
    replace r2 := Lib.hid r2
    replace o2 := Lib.hid o2
    replace n2 := Lib.hid n2
    refine hK.out _ _ z2 (fun hHeld => ?_)
    clear hK K
    (try simp only [Act.put, List.setIfInBounds_toArray, List.set_cons_zero, List.set_cons_succ])
    refine wpAnyH_take (i := 20) (v := .bool true) rfl (by kernel_rfl) (by kernel_rfl) (by kernel_rfl) (fun _ _ _ h => h) (Or.inl ⟨by kernel_rfl, fun W hSw => ?_⟩) (by assumption) ?_
    · (try dsimp only at hSw)
      go_simp
    (try simp only [Act.put, List.setIfInBounds_toArray, List.set_cons_zero, List.set_cons_succ])
    refine wpAnyH_take (i := 21) (v := .bool true) rfl (by kernel_rfl) (by kernel_rfl) (by kernel_rfl) (fun _ _ _ h => h) (Or.inl ⟨by kernel_rfl, fun W hSw => ?_⟩) (by assumption) ?_
    · (try dsimp only at hSw)
      go_simp
    (try simp only [Act.put, List.setIfInBounds_toArray, List.set_cons_zero, List.set_cons_succ])
    refine wpAnyH_done (by kernel_rfl) ?_ _
    go_wp2_with fail
    go_ret
    exact fin.out _ _ _ _ _ _ k1.out (show Only G W0 _ from ⟨o1.out.os, o1.out.tape, o1.out.output, o1.out.size, o1.out.block⟩) n1.out r2.out o2.out n2.out (Below.refl _ _) eL.out
  · have dk : (kk == 1) = false := by simpa using hk
    have hkk := Lib.hid hk
    clear hk
    have hL := h1.out.k.lok.room
    have hfit := Lib.hid h1.out.fit
    have HF := Lib.hid (BFill_any B b G L i n W0 (Lib.hid h1.out.k) hI.out.2.2)
    have HR := fun (W : World) (hR : Hid (Rm B2 d v L W)) => RFill_any B2 d v L i n W hR (by omega) hI.out.2.2 hfit
    have eL0 : (fillO L i n).2 = doO L ⟨kk, s, i, p, n⟩ := by unfold doO; rw [if_neg hkk.out]
    obtain ⟨⟨f, L1⟩, ep⟩ : ∃ q, fillO L i n = q := ⟨_, rfl⟩
    rw [ep] at HF HR eL0
    have eL := Lib.hid eL0
    obtain ⟨⟨⟨yi, ys, yp, yn, yt⟩, ok⟩, ey⟩ : ∃ q, findO L1 i = q := ⟨_, rfl⟩
    have df : (f == f) = true := by simp
    have dok : (ok == ok) = true := by simp
    have keep : Hid (∀ W : World, Only (fun j => G j ∨ rfoot d v j) W0 W → (W.cell? ⟨g, 2, none⟩ = some (.int .i64 i) ∧ W.cell? ⟨g, 4, none⟩ = some (.int .i64 n)) ∧ g < W.heap.size) := Lib.hid (fun W ho => by
      obtain ⟨⟨-, -, q2, -, q4⟩, -⟩ := row5 ((ho.block g hgs.out (fun e => by have := hgf.out g e; omega)).trans hg.out)
      exact ⟨⟨q2, q4⟩, by have := ho.size; have := hgs.out; omega⟩)
    replace HR := Lib.hid HR
    replace ey := Lib.hid ey
    replace ep := Lib.hid ep
    clear eL0 y1 y3
    go_enter Try.func11, Try.ntmps11
    go_upto_region 1 with (fail)
    rw [eW0.out, eg.out]
    go_wp2_with fail
    refine HF.out.mono ?_
    rintro e w1 ⟨G1, rfl, k1, o1, n1⟩
    obtain ⟨⟨q2, q4⟩, -⟩ := keep.out w1 (o1.mono (fun _ _ e => .inl e))
    have HR1 := Lib.hid (HR.out w1 (Lib.hid (h1.out.r.only o1 (fun j hj e => h1.out.far j e hj))))
    replace k1 := Lib.hid k1
    replace o1 := Lib.hid o1
    replace n1 := Lib.hid n1
    clear HF HR y0 y2 y4
    go_wp2_with fail
    refine HR1.out.mono ?_
    rintro e w2 ⟨v2, rfl, r2, o2, n2⟩
    have o12 := Lib.hid ((o1.out.mono (q := fun j => G j ∨ rfoot d v j) (fun _ _ e => .inl e)).trans (o2.mono (fun j _ e => .inr (.inl e))))
    clear q2 q4
    obtain ⟨⟨q2, q4⟩, hg2⟩ := keep.out w2 o12.out
    obtain ⟨s1, -, s3, s4⟩ := pair_step h1.out k1.out o1.out n1.out r2 o2 n2
    have P2 := Lib.hid s1
    have HFd := BFind_any B b G1 L1 i w2 (Lib.hid P2.out.k)
    rw [ey.out] at HFd
    simp only [Or.val, Or.cells] at HFd
    replace HFd := Lib.hid HFd
    replace r2 := Lib.hid r2
    replace o2 := Lib.hid o2
    replace n2 := Lib.hid n2
    replace hg2 := Lib.hid hg2
    have hL1 := P2.out.k.lok.room
    clear s1 s3 s4 HR1
    go_wp2_with fail
    refine HFd.out.mono ?_
    rintro e w3 ⟨rfl, b3⟩
    obtain ⟨ga, ega⟩ : ∃ x, w3.heap.size = x := ⟨_, rfl⟩
    obtain ⟨w4, ew4⟩ : ∃ X, w3.alloc (.cells #[.int .i64 yi, .int .i64 ys, .int .i64 yp, .int .i64 yn, .bool yt] 40) = X := ⟨_, rfl⟩
    have b34 : Below w3.heap.size w3 w4 := by rw [← ew4]; exact (Below.refl _ _).alloc (Nat.le_refl _) _
    have b4 : Hid (Below w2.heap.size w2 w4) := Lib.hid (b3.trans (b34.mono b3.size))
    have hga : Hid (w4.heap[ga]? = some (.cells #[.int .i64 yi, .int .i64 ys, .int .i64 yp, .int .i64 yn, .bool yt] 40 (0, 0))) := Lib.hid (by rw [← ew4, ← ega]; exact heap_alloc_new w3 _)
    have q2' : w4.cell? ⟨g, 2, none⟩ = some (.int .i64 i) := (b4.out.cell (p := ⟨g, 2, none⟩) hg2.out).trans q2
    have HRd := RFind_any B2 d v2 L1 i w4 (Lib.hid (P2.out.r.below b4.out)) (by omega)
    rw [ey.out] at HRd
    simp only [Or.val, Or.cells] at HRd
    replace HRd := Lib.hid HRd
    replace b3 := Lib.hid b3
    replace b34 := Lib.hid b34
    clear HFd q2 q4
    go_wp2_with fail
    refine HRd.out.mono ?_
    rintro e w5 ⟨rfl, b5⟩
    obtain ⟨gb, egb⟩ : ∃ x, w5.heap.size = x := ⟨_, rfl⟩
    obtain ⟨w6, ew6⟩ : ∃ X, w5.alloc (.cells #[.int .i64 yi, .int .i64 ys, .int .i64 yp, .int .i64 yn, .bool yt] 68) = X := ⟨_, rfl⟩
    have b56 : Below w5.heap.size w5 w6 := by rw [← ew6]; exact (Below.refl _ _).alloc (Nat.le_refl _) _
    have b46 := b5.trans (b56.mono b5.size)
    have b6 : Hid (Below w2.heap.size w2 w6) := Lib.hid (b4.out.trans (b46.mono b4.out.size))
    have hgb : w6.heap[gb]? = some (.cells #[.int .i64 yi, .int .i64 ys, .int .i64 yp, .int .i64 yn, .bool yt] 68 (0, 0)) := by rw [← ew6, ← egb]; exact heap_alloc_new w5 _
    have hga6 := (b46.block ga (Array.getElem?_eq_some_iff.1 hga.out).1).trans hga.out
    obtain ⟨⟨a0, a1, a2, a3, a4⟩, -⟩ := row5 hga6
    obtain ⟨⟨c0, c1, c2, c3, c4⟩, -⟩ := row5 hgb
    have HO := Lib.hid (LOrder_any yi ys yp yn yt w6)
    replace hgb := Lib.hid hgb
    replace hga6 := Lib.hid hga6
    replace b5 := Lib.hid b5
    replace b46 := Lib.hid b46
    replace b56 := Lib.hid b56
    clear q2' HRd
    go_wp2_with fail
    refine HO.out.mono ?_
    rintro e w7 ⟨rfl, b7⟩
    have b27 := Lib.hid (b6.out.trans (b7.mono b6.out.size))
    replace b7 := Lib.hid b7
    clear a0 a1 a2 a3 a4 c0 c1 c2 c3 c4
    go_wp2_with fail
    go_ret
    exact fin.out _ _ _ _ _ _ k1.out o1.out n1.out r2.out o2.out n2.out b27.out eL.out
end Go.Proofs.Ytlknlicokacoiaa
