/-
  A side's rows, or the spare queues, are turned in their own block and stored anew.
-/
import Derived.Test.YtlknlicokacoiaaBkWb
import Derived.Test.YtlknlicokacoiaaBkDel
namespace Go.Proofs.Ytlknlicokacoiaa
open Go.RowKit
set_option linter.unusedVariables false
set_option linter.unusedSimpArgs false

section
variable {b a : Nat} {V : Nat → Value} {vs : Value} {R : Nat → List (Int × Nat)} {T : List (Int × Int)} {S : List Nat} {w w1 : World}
theorem Bm.vfar (h : Bm b a V vs R T S w) {s s' k : Nat} (hs : s = 1 ∨ s = 2) (hs' : s' = 1 ∨ s' = 2) (hne : s' ≠ s) (hk : (V s').ownBlock = some k) : (V s).ownBlock ≠ some k := by
  rcases hs with rfl | rfl <;> rcases hs' with rfl | rfl
  · exact absurd rfl hne
  · exact fun e => h.vv k e hk
  · exact h.vv k hk
  · exact absurd rfl hne
theorem Bm.swapSide (h : Bm b a V vs R T S w) {s : Nat} (hs : s = 1 ∨ s = 2) (ho : Only (fun k => (V s).ownBlock = some k) w w1) {v : Value} {R' : List (Int × Nat)} (hv : Own fR 86 w1 0 v R') (hn : ∀ k, v.ownBlock = some k → (V s).ownBlock = some k ∨ w.heap.size ≤ k) :
    Bm b a (updV V s v) vs (upd R s R') T S (w1.setCell ⟨b, 501 + s, none⟩ v) ∧ (∀ k, bfoot b (updV V s v) vs k → bfoot b V vs k ∨ w.heap.size ≤ k) ∧ Only (bfoot b V vs) w (w1.setCell ⟨b, 501 + s, none⟩ v) := by
  have hst := set_only w1 b (501 + s) v
  have hbw : b < w.heap.size := h.lt (.inl rfl)
  have vb : ∀ k, v.ownBlock = some k → k ≠ b := fun k hk e => by
    rcases hn k hk with e1 | e1
    · exact (h.vb s hs k e1).1 e
    · omega
  have vo : ∀ s', (s' = 1 ∨ s' = 2) → s' ≠ s → ∀ k, v.ownBlock = some k → (V s').ownBlock ≠ some k := fun s' hs' hne k hk e => by
    rcases hn k hk with e1 | e1
    · exact h.vfar hs hs' hne e e1
    · have := h.lt (bfoot_v hs' e); omega
  have vsp : ∀ k, v.ownBlock = some k → vs.ownBlock ≠ some k := fun k hk e => by
    rcases hn k hk with e1 | e1
    · exact (h.vb s hs k e1).2 e
    · have := h.lt (k := k) (.inr (.inr (.inr e))); omega
  obtain ⟨cur, v0, h1, h2⟩ := h.at'
  have h1' : w1.heap[b]? = some (.cells cur 65 (0, 0)) := (ho.block b hbw (fun e => (h.vb s hs b e).1 rfl)).trans h1
  have hl := rowsT_len h.tl
  have own : ∀ s', s' = 1 ∨ s' = 2 → Own fR 86 (w1.setCell ⟨b, 501 + s, none⟩ v) 0 (updV V s v s') (upd R s R' s') := fun s' hs' => by
    by_cases e : s' = s
    · subst e; rw [updV_at, upd_at]; exact hv.only hst (fun k hk e => vb k hk e)
    · rw [updV_far _ _ e, upd_far _ _ e]; exact ((h.rw s' hs').only ho (fun k hk => h.vfar hs hs' e hk)).only hst (fun k hk e => (h.vb s' hs' k hk).1 e)
  refine ⟨⟨⟨cur.setIfInBounds (501 + s) v, v0, heap_setCell_same w1 b (501 + s) cur _ v h1', ?_⟩, h.tl, own, (h.sp.only ho (fun k hk e => (h.vb s hs k e).2 hk)).only hst (fun k hk e => h.sb k hk e), fun s' hs' k hk => ?_, h.sb, fun k hk e => ?_⟩, fun k hk => ?_, ?_⟩
  · rw [Array.toList_setIfInBounds, h2, show 501 + s = (500 + s) + 1 by omega, List.set_cons_succ, List.set_append_right _ _ (by omega), hl, show 500 + s - 500 = s by omega]
    rcases hs with rfl | rfl
    · rw [updV_at, updV_far V v (show 2 ≠ 1 by omega)]; rfl
    · rw [updV_at, updV_far V v (show 1 ≠ 2 by omega)]; rfl
  · by_cases e : s' = s
    · subst e; rw [updV_at] at hk; exact ⟨vb k hk, vsp k hk⟩
    · rw [updV_far _ _ e] at hk; exact h.vb s' hs' k hk
  · rcases hs with rfl | rfl
    · rw [updV_at] at hk
      rw [updV_far V v (show 2 ≠ 1 by omega)] at e
      exact vo 2 (.inr rfl) (by omega) k hk e
    · rw [updV_at] at e
      rw [updV_far V v (show 1 ≠ 2 by omega)] at hk
      exact vo 1 (.inl rfl) (by omega) k e hk
  · rcases bfoot_of hk with e | ⟨s', hs', e⟩ | e
    · exact .inl (.inl e)
    · by_cases e2 : s' = s
      · subst e2
        rw [updV_at] at e
        rcases hn k e with e3 | e3
        · exact .inl (bfoot_v hs e3)
        · exact .inr e3
      · rw [updV_far _ _ e2] at e
        exact .inl (bfoot_v hs' e)
    · exact .inl (.inr (.inr (.inr e)))
  · exact (ho.mono (fun k _ e => bfoot_v hs e)).trans (hst.mono (fun k _ e => .inl e))
theorem Bm.swapSpare (h : Bm b a V vs R T S w) (ho : Only (fun k => vs.ownBlock = some k) w w1) {v : Value} {S' : List Nat} (hv : Own fN 3 w1 0 v S') (hn : ∀ k, v.ownBlock = some k → vs.ownBlock = some k ∨ w.heap.size ≤ k) :
    Bm b a V v R T S' (w1.setCell ⟨b, 504, none⟩ v) ∧ (∀ k, bfoot b V v k → bfoot b V vs k ∨ w.heap.size ≤ k) ∧ Only (bfoot b V vs) w (w1.setCell ⟨b, 504, none⟩ v) := by
  have hst := set_only w1 b 504 v
  have hbw : b < w.heap.size := h.lt (.inl rfl)
  have vb : ∀ k, v.ownBlock = some k → k ≠ b := fun k hk e => by
    rcases hn k hk with e1 | e1
    · exact h.sb k e1 e
    · omega
  have vo : ∀ s', (s' = 1 ∨ s' = 2) → ∀ k, v.ownBlock = some k → (V s').ownBlock ≠ some k := fun s' hs' k hk e => by
    rcases hn k hk with e1 | e1
    · exact (h.vb s' hs' k e).2 e1
    · have := h.lt (bfoot_v hs' e); omega
  obtain ⟨cur, v0, h1, h2⟩ := h.at'
  have h1' : w1.heap[b]? = some (.cells cur 65 (0, 0)) := (ho.block b hbw (fun e => h.sb b e rfl)).trans h1
  have hl := rowsT_len h.tl
  refine ⟨⟨⟨cur.setIfInBounds 504 v, v0, heap_setCell_same w1 b 504 cur _ v h1', ?_⟩, h.tl, fun s' hs' => ((h.rw s' hs').only ho (fun k hk e => (h.vb s' hs' k hk).2 e)).only hst (fun k hk e => (h.vb s' hs' k hk).1 e), hv.only hst (fun k hk e => vb k hk e), fun s' hs' k hk => ⟨(h.vb s' hs' k hk).1, fun e => vo s' hs' k e hk⟩, vb, h.vv⟩, fun k hk => ?_, ?_⟩
  · rw [Array.toList_setIfInBounds, h2, List.set_cons_succ, List.set_append_right _ _ (by omega), hl]; rfl
  · rcases bfoot_of hk with e | ⟨s', hs', e⟩ | e
    · exact .inl (.inl e)
    · exact .inl (bfoot_v hs' e)
    · rcases hn k e with e3 | e3
      · exact .inl (.inr (.inr (.inr e3)))
      · exact .inr e3
  · exact (ho.mono (fun k _ e => .inr (.inr (.inr e)))).trans (hst.mono (fun k _ e => .inl e))
end
theorem bet_rows {R X Y : List (Int × Nat)} {s : Int} {p : Int} {q : Nat} (h : R.Pairwise (fun a b => bet s a.1 b.1 = true)) (hR : R = X ++ (p, q) :: Y) : placeN s p R = X.length ∧ foundB s p R = true ∧ (∀ r ∈ X, bet s r.1 p = true) ∧ ∀ r ∈ Y, bet s p r.1 = true := by
  rw [hR, List.pairwise_append, List.pairwise_cons] at h
  obtain ⟨h1, ⟨h2, h3⟩, h4⟩ := h
  have hX : ∀ r ∈ X, bet s r.1 p = true := fun r hr => h4 r hr (p, q) (by simp)
  have hp : placeN s p R = X.length := placeN_at s p R X.length (by rw [hR]; simpa using hX) (by rw [hR]; simp) (fun r hr => by
    rw [hR] at hr; simp at hr; rw [← hr]; exact bet_self s p)
  refine ⟨hp, ?_, hX, fun r hr => h2 r hr⟩
  unfold foundB
  rw [hp, hR]; simp
theorem place_not {R : List (Int × Nat)} {s p : Int} (h : R.Pairwise (fun a b => bet s a.1 b.1 = true)) (hf : foundB s p R = false) : ∃ X Y, R = X ++ Y ∧ X.length = placeN s p R ∧ (∀ r ∈ X, bet s r.1 p = true) ∧ ∀ r ∈ Y, bet s p r.1 = true := by
  obtain ⟨h1, h2⟩ := placeN_split s p R
  have hle := placeN_le s p R
  refine ⟨R.take (placeN s p R), R.drop (placeN s p R), (List.take_append_drop _ _).symm, by rw [List.length_take]; omega, h1, fun r hr => ?_⟩
  rcases Nat.lt_or_ge (placeN s p R) R.length with hl | hl
  · obtain ⟨x, hx⟩ : ∃ x, R[placeN s p R]? = some x := ⟨_, List.getElem?_eq_getElem hl⟩
    have hb := h2 x hx
    have hn : x.1 ≠ p := fun e => by
      unfold foundB at hf
      rw [hx] at hf
      simp [e] at hf
    have hb2 : bet s p x.1 = true := by
      cases hc : bet s p x.1 with
      | true => rfl
      | false => exact absurd (bet_eq hb hc) hn
    have hd : R.drop (placeN s p R) = x :: R.drop (placeN s p R + 1) := by
      have := (List.getElem?_eq_some_iff.1 hx).2
      rw [List.drop_eq_getElem_cons hl, this]
    rw [hd] at hr
    rcases List.mem_cons.1 hr with rfl | hr
    · exact hb2
    · have hp : (R.drop (placeN s p R)).Pairwise (fun a b => bet s a.1 b.1 = true) := h.sublist (List.drop_sublist _ _)
      rw [hd, List.pairwise_cons] at hp
      exact bet_trans hb2 (hp.1 r hr)
  · rw [List.drop_of_length_le hl] at hr; cases hr
theorem place_found {R : List (Int × Nat)} {s p : Int} (h : R.Pairwise (fun a b => bet s a.1 b.1 = true)) (hf : foundB s p R = true) : ∃ X q Y, R = X ++ (p, q) :: Y ∧ X.length = placeN s p R := by
  unfold foundB at hf
  cases hx : R[placeN s p R]? with
  | none => rw [hx] at hf; cases hf
  | some x =>
    rw [hx] at hf
    have he : x.1 = p := of_decide_eq_true hf
    have hl := (List.getElem?_eq_some_iff.1 hx).1
    have hd : R.drop (placeN s p R) = x :: R.drop (placeN s p R + 1) := by
      have := (List.getElem?_eq_some_iff.1 hx).2
      rw [List.drop_eq_getElem_cons hl, this]
    refine ⟨R.take (placeN s p R), x.2, R.drop (placeN s p R + 1), ?_, by rw [List.length_take]; omega⟩
    rw [show (p, x.2) = x by rw [← he], ← hd]; exact (List.take_append_drop _ _).symm
end Go.Proofs.Ytlknlicokacoiaa
