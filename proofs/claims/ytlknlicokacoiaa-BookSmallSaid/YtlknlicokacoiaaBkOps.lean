/-
  What the program's state tells as a list of orders, and what adding, filling and dropping a row make of it. Plain lists.
-/
import Derived.Test.YtlknlicokacoiaaBk
namespace Go.Proofs.Ytlknlicokacoiaa
open Go.RowKit
set_option linter.unusedVariables false
set_option linter.unusedSimpArgs false

theorem perm_sum {a b : List Nat} (h : a.Perm b) : a.sum = b.sum := by
  induction h with
  | nil => rfl
  | cons x _ ih => simp only [List.sum_cons, ih]
  | swap x y l => simp only [List.sum_cons]; omega
  | trans _ _ h1 h2 => exact h1.trans h2
theorem sideO_len (st : St) (s : Int) (R : List (Int × Nat)) : (sideO st s R).length = ((R.map Prod.snd).map (fun q => (lq st q).length)).sum := by
  induction R with
  | nil => rfl
  | cons r R ih => rw [sideO, List.length_append, ih, rowO, List.length_map]; simp only [List.map_cons, List.sum_cons]
theorem sum_zero {l : List Nat} (h : ∀ x ∈ l, x = 0) : l.sum = 0 := by
  induction l with
  | nil => rfl
  | cons x l ih => rw [List.sum_cons, h x (by simp), ih (fun y hy => h y (by simp [hy]))]
theorem range_lens (Q : List (List En)) : (List.range Q.length).map (fun q => (Q.getD q []).length) = Q.map List.length := by
  apply List.ext_getElem?
  intro j
  rw [List.getElem?_map, List.getElem?_map]
  rcases Nat.lt_or_ge j Q.length with h | h
  · rw [List.getElem?_range h, List.getElem?_eq_getElem h]
    simp only [Option.map_some]
    rw [List.getD_eq_getElem?_getD, List.getElem?_eq_getElem h]; rfl
  · rw [List.getElem?_eq_none (by simp; omega), List.getElem?_eq_none (by omega)]; rfl
theorem CInv.count {ex : Nat → Prop} {c : Cs} (h : CInv ex c) : c.abs.length = c.st.U.count true := by
  rw [← h.ok.sum, ← range_lens]
  have e := perm_sum (h.part.map (fun q => (lq c.st q).length))
  refine Eq.trans ?_ e
  unfold Cs.abs rowQs
  rw [List.length_append, sideO_len, sideO_len, List.map_append, List.map_append, List.sum_append, List.sum_append]
  have z : (c.S.map (fun q => (lq c.st q).length)).sum = 0 := sum_zero (fun x hx => by
    obtain ⟨q, hq, rfl⟩ := List.mem_map.1 hx
    rw [h.spare q hq]; rfl)
  omega
theorem CInv.few {ex : Nat → Prop} {c : Cs} (h : CInv ex c) : c.abs.length ≤ 250 := by
  rw [h.count, ← h.room]; exact List.count_le_length
theorem CInv.free {ex : Nat → Prop} {c : Cs} (h : CInv ex c) : c.st.U.count false + c.abs.length = 250 := by
  rw [h.count, ← h.room]
  have : ∀ U : List Bool, U.count false + U.count true = U.length := by
    intro U
    induction U with
    | nil => rfl
    | cons b U ih => cases b <;> simp [List.count_cons] <;> omega
  exact this _
theorem mem_abs {c : Cs} {x : Or} (hx : x ∈ c.abs) : ∃ (s : Nat) (r : Int × Nat) (e : En), (s = 1 ∨ s = 2) ∧ r ∈ c.R s ∧ e ∈ lq c.st r.2 ∧ x = ordE s r.1 e := by
  rcases List.mem_append.1 hx with hx | hx
  · obtain ⟨r, hr, e, he, ex⟩ := mem_sideO.1 hx
    exact ⟨1, r, e, .inl rfl, hr, he, ex⟩
  · obtain ⟨r, hr, e, he, ex⟩ := mem_sideO.1 hx
    exact ⟨2, r, e, .inr rfl, hr, he, ex⟩
theorem abs_mem {c : Cs} {s : Nat} {r : Int × Nat} {e : En} (hs : s = 1 ∨ s = 2) (hr : r ∈ c.R s) (he : e ∈ lq c.st r.2) : ordE s r.1 e ∈ c.abs := by
  rcases hs with rfl | rfl
  · exact List.mem_append.2 (.inl (mem_sideO.2 ⟨r, hr, e, he, rfl⟩))
  · exact List.mem_append.2 (.inr (mem_sideO.2 ⟨r, hr, e, he, rfl⟩))
theorem CInv.fit {ex : Nat → Prop} {c : Cs} (h : CInv ex c) {s : Nat} {r : Int × Nat} {e : En} (hr : r ∈ c.R s) (he : e ∈ lq c.st r.2) : 1 ≤ e.n ∧ e.n ≤ 1000000 ∧ I64 e.i := h.ok.fit _ _ e (lq_some (lq_lt he)) he
theorem sideO_sort (st : St) (s : Int) : ∀ {R : List (Int × Nat)}, R.Pairwise (fun a b => bet s a.1 b.1 = true) → (sideO st s R).Pairwise (fun a b => a.s < b.s ∨ (a.s = b.s ∧ bet a.s b.p a.p = false)) := by
  intro R
  induction R with
  | nil => intro _; exact List.Pairwise.nil
  | cons r R ih =>
    intro h
    rw [List.pairwise_cons] at h
    rw [sideO, List.pairwise_append]
    refine ⟨?_, ih h.2, fun a ha b hb => ?_⟩
    · rw [rowO, List.pairwise_map]
      refine List.Pairwise.imp (R := fun _ _ => True) (fun {a b} _ => .inr ⟨rfl, bet_self _ _⟩) ?_
      exact List.pairwise_of_forall (fun _ _ => trivial)
    · obtain ⟨e, _, rfl⟩ := List.mem_map.1 ha
      obtain ⟨r', hr', e', _, rfl⟩ := mem_sideO.1 hb
      exact .inr ⟨rfl, bet_asym (h.1 r' hr')⟩
theorem tail_pairwise {α : Type} {P : α → Prop} : ∀ {l : List α}, (∀ x ∈ l.tail, P x) → l.Pairwise (fun _ b => P b) := by
  intro l
  cases l with
  | nil => intro _; exact List.Pairwise.nil
  | cons x l =>
    intro h
    rw [List.tail_cons] at h
    rw [List.pairwise_cons]
    refine ⟨h, ?_⟩
    induction l with
    | nil => exact List.Pairwise.nil
    | cons y l ih =>
      rw [List.pairwise_cons]
      exact ⟨fun z hz => h z (by simp [hz]), ih (fun z hz => h z (by simp [hz]))⟩
theorem CInv.lok {ex : Nat → Prop} {c : Cs} (h : CInv ex c) : LOk c.abs := by
  refine ⟨h.few, fun x hx => ?_, h.ids, ?_, ?_⟩
  · obtain ⟨s, r, e, hs, hr, he, rfl⟩ := mem_abs hx
    obtain ⟨a, b, d⟩ := h.fit hr he
    refine ⟨?_, a, b, d, h.price s r hr⟩
    show (s : Int) = 1 ∨ (s : Int) = 2
    omega
  · unfold Cs.abs
    rw [List.pairwise_append]
    refine ⟨sideO_sort _ _ (h.sort 1), sideO_sort _ _ (h.sort 2), fun a ha b hb => ?_⟩
    obtain ⟨r, hr, e, he, rfl⟩ := mem_sideO.1 ha
    obtain ⟨r', hr', e', he', rfl⟩ := mem_sideO.1 hb
    exact .inl (show (1 : Int) < 2 by omega)
  · unfold Cs.abs
    rw [List.pairwise_append]
    refine ⟨List.Pairwise.imp (R := fun _ b => b.t = false) (S := fun (a b : Or) => a.s = b.s → b.t = false) (fun k _ => k) (tail_pairwise (P := fun b : Or => b.t = false) (h.flag 1)), List.Pairwise.imp (R := fun _ b => b.t = false) (S := fun (a b : Or) => a.s = b.s → b.t = false) (fun k _ => k) (tail_pairwise (P := fun b : Or => b.t = false) (h.flag 2)), fun a ha b hb e => ?_⟩
    obtain ⟨r, hr, e1, he, rfl⟩ := mem_sideO.1 ha
    obtain ⟨r', hr', e', he', rfl⟩ := mem_sideO.1 hb
    exact absurd e (show ¬ (1 : Int) = 2 by omega)

/-! One queue is turned. -/
theorem abs_mid {c : Cs} {s q : Nat} {p : Int} {X Y : List (Int × Nat)} (hs : s = 1 ∨ s = 2) (hR : c.R s = X ++ (p, q) :: Y) :
    c.abs = (preO c.st c.R s ++ sideO c.st s X) ++ ((lq c.st q).map (ordE s p) ++ (sideO c.st s Y ++ sufO c.st c.R s)) := by
  rw [abs_split c hs, hR, sideO_app, sideO]
  simp only [rowO, List.append_assoc]
theorem abs_turn {c c' : Cs} {s q : Nat} {p : Int} {X Y : List (Int × Nat)} (hs : s = 1 ∨ s = 2) (hR : c.R s = X ++ (p, q) :: Y) (ha : Apart c s q X Y) (hR' : c'.R = c.R) (hq : ∀ k, k ≠ q → lq c'.st k = lq c.st k) :
    c'.abs = (preO c.st c.R s ++ sideO c.st s X) ++ ((lq c'.st q).map (ordE s p) ++ (sideO c.st s Y ++ sufO c.st c.R s)) := by
  rw [abs_mid (c := c') hs (by rw [hR', hR]), hR']
  obtain ⟨e1, e2⟩ := preO_frame (st := c.st) (st' := c'.st) (R := c.R) (R' := c.R) hs (fun _ _ => rfl) (fun s' h r hr => hq _ (ha.o s' h r hr))
  rw [e1, e2, sideO_frame (st := c.st) (st' := c'.st) s (fun r hr => hq _ (ha.x r hr)), sideO_frame (st := c.st) (st' := c'.st) s (fun r hr => hq _ (ha.y r hr))]
theorem side_turn {c c' : Cs} {s q : Nat} {p : Int} {X Y : List (Int × Nat)} (hR : c.R s = X ++ (p, q) :: Y) (ha : Apart c s q X Y) (hR' : c'.R = c.R) (hq : ∀ k, k ≠ q → lq c'.st k = lq c.st k) (s' : Nat) :
    sideO c'.st s' (c'.R s') = if s' = s then sideO c.st s X ++ ((lq c'.st q).map (ordE s p) ++ sideO c.st s Y) else sideO c.st s' (c.R s') := by
  rw [hR']
  by_cases e : s' = s
  · subst e
    rw [if_pos rfl, hR, sideO_app, sideO, sideO_frame (st := c.st) (st' := c'.st) s' (fun r hr => hq _ (ha.x r hr)), sideO_frame (st := c.st) (st' := c'.st) s' (fun r hr => hq _ (ha.y r hr))]
    rfl
  · rw [if_neg e, sideO_frame (st := c.st) (st' := c'.st) s' (fun r hr => hq _ (ha.o s' e r hr))]
theorem mine_only {c : Cs} {s q : Nat} {p : Int} {X Y : List (Int × Nat)} (hR : c.R s = X ++ (p, q) :: Y) (ha : Apart c s q X Y) {s' : Nat} {r : Int × Nat} (hr : r ∈ c.R s') (e : r.2 = q) : s' = s ∧ r = (p, q) := by
  by_cases h : s' = s
  · subst h
    refine ⟨rfl, ?_⟩
    rw [hR] at hr
    rcases List.mem_append.1 hr with h1 | h1
    · exact absurd e (ha.x r h1)
    · rcases List.mem_cons.1 h1 with h1 | h1
      · exact h1
      · exact absurd e (ha.y r h1)
  · exact absurd e (ha.o s' h r hr)
theorem tail_sub {α : Type} {P : α → Prop} {U W : List α} {x y : α} (h : ∀ z ∈ (U ++ x :: W).tail, P z) (hy : P x → P y) : ∀ z ∈ (U ++ y :: W).tail, P z := by
  intro z hz
  cases U with
  | nil => exact h z (by simpa using hz)
  | cons u U =>
    simp only [List.cons_append, List.tail_cons, List.mem_append, List.mem_cons] at h hz
    rcases hz with hz | rfl | hz
    · exact h z (.inl hz)
    · exact hy (h x (.inr (.inl rfl)))
    · exact h z (.inr (.inr hz))
theorem tail_less {α : Type} {P : α → Prop} {U W : List α} {x : α} (h : ∀ z ∈ (U ++ x :: W).tail, P z) : ∀ z ∈ (U ++ W).tail, P z := by
  intro z hz
  cases U with
  | nil => exact h z (List.mem_of_mem_tail hz)
  | cons u U =>
    simp only [List.cons_append, List.tail_cons, List.mem_append, List.mem_cons] at h hz
    rcases hz with hz | hz
    · exact h z (.inl hz)
    · exact h z (.inr (.inr hz))
/-- An order's numbers are turned. -/
theorem CInv.turn {ex : Nat → Prop} {c : Cs} (h : CInv ex c) {s q : Nat} {p : Int} {X Y : List (Int × Nat)} (hs : s = 1 ∨ s = 2) (hR : c.R s = X ++ (p, q) :: Y) {A C : List En} {e e' : En} (hq : lq c.st q = A ++ e :: C) (es : e'.s = e.s) (ei : e'.i = e.i) (h1 : 1 ≤ e'.n) (h2 : e'.n ≤ 1000000) (ht : e.t = false → e'.t = false) :
    CInv ex { c with st := c.st.turned q (A ++ e' :: C) } ∧ Cs.abs { c with st := c.st.turned q (A ++ e' :: C) } = (preO c.st c.R s ++ sideO c.st s X ++ A.map (ordE s p)) ++ ordE s p e' :: (C.map (ordE s p) ++ (sideO c.st s Y ++ sufO c.st c.R s)) ∧
    c.abs = (preO c.st c.R s ++ sideO c.st s X ++ A.map (ordE s p)) ++ ordE s p e :: (C.map (ordE s p) ++ (sideO c.st s Y ++ sufO c.st c.R s)) := by
  have ha := h.apart hR
  have hl : c.st.Q[q]? = some (A ++ e :: C) := by rw [lq_some ha.lt, hq]
  obtain ⟨c', ec⟩ : ∃ c' : Cs, c' = { c with st := c.st.turned q (A ++ e' :: C) } := ⟨_, rfl⟩
  have l1 : ∀ k, lq c'.st k = if k = q then A ++ e' :: C else lq c.st k := fun k => by rw [ec]; exact lq_turned ha.lt _ k
  have lf : ∀ k, k ≠ q → lq c'.st k = lq c.st k := fun k hk => by rw [l1, if_neg hk]
  have lm : lq c'.st q = A ++ e' :: C := by rw [l1, if_pos rfl]
  have eR : c'.R = c.R := by rw [ec]
  have eS : c'.S = c.S := by rw [ec]
  have eT : c'.T = c.T := by rw [ec]
  have a1 := abs_turn hs hR ha eR lf
  rw [lm] at a1
  have a0 := abs_mid (c := c) hs hR
  rw [hq] at a0
  rw [← ec]
  have a2 : c.abs = (preO c.st c.R s ++ sideO c.st s X ++ A.map (ordE s p)) ++ ordE s p e :: (C.map (ordE s p) ++ (sideO c.st s Y ++ sufO c.st c.R s)) := by rw [a0]; simp [List.append_assoc]
  have a3 : c'.abs = (preO c.st c.R s ++ sideO c.st s X ++ A.map (ordE s p)) ++ ordE s p e' :: (C.map (ordE s p) ++ (sideO c.st s Y ++ sufO c.st c.R s)) := by rw [a1]; simp [List.append_assoc]
  refine ⟨⟨by rw [ec]; exact h.ok.turned hl es ei h1 h2, by rw [ec]; exact h.room, by rw [eT]; exact h.tl, ?_, fun k hk => ?_, fun s' r hr => ?_, fun s' x1 x2 => by rw [eR]; exact h.none' s' x1 x2, fun s' r x hr hx => ?_, fun s' => by rw [eR]; exact h.sort s', fun s' r hr => h.price s' r (by rw [← eR]; exact hr), ?_, fun s' => ?_⟩, a3, a2⟩
  · have : c'.st.Q.length = c.st.Q.length := by rw [ec]; exact List.length_set
    rw [this]; unfold rowQs; rw [eR, eS]; exact h.part
  · rw [eS] at hk
    rw [lf k (fun e0 => ha.p (e0 ▸ hk))]; exact h.spare k hk
  · rw [eR] at hr
    by_cases e0 : r.2 = q
    · exact .inr (by rw [e0, lm]; simp)
    · rw [lf _ e0]; exact h.full s' r hr
  · rw [eR] at hr
    rw [eT]
    by_cases e0 : r.2 = q
    · rw [e0, lm] at hx
      obtain ⟨y, hy, ey⟩ := mem_mid es hx
      rw [← ey]
      exact h.seat s' r y hr (by rw [e0, hq]; exact hy)
    · rw [lf _ e0] at hx; exact h.seat s' r x hr hx
  · have := h.ids
    rw [a2] at this
    rw [a3]
    simp only [List.map_append, List.map_cons] at this ⊢
    rw [show (ordE s p e').i = (ordE s p e).i from ei]; exact this
  · have f := h.flag s'
    rw [side_turn hR ha eR lf s']
    by_cases e0 : s' = s
    · subst e0
      rw [if_pos rfl, lm]
      rw [hR, sideO_app, sideO, rowO, hq] at f
      simp only [List.map_append, List.map_cons, List.append_assoc, List.cons_append] at f ⊢
      rw [← List.append_assoc] at f ⊢
      exact tail_sub f ht
    · rw [if_neg e0]; exact f
/-- An order is gone. -/
theorem CInv.lose {c : Cs} (h : CInv noEx c) {s q : Nat} {p : Int} {X Y : List (Int × Nat)} (hs : s = 1 ∨ s = 2) (hR : c.R s = X ++ (p, q) :: Y) {A C : List En} {e : En} (hq : lq c.st q = A ++ e :: C) :
    CInv (fun k => k = q) { c with st := c.st.gone q e.s (A ++ C) } ∧ Cs.abs { c with st := c.st.gone q e.s (A ++ C) } = (preO c.st c.R s ++ sideO c.st s X ++ A.map (ordE s p)) ++ (C.map (ordE s p) ++ (sideO c.st s Y ++ sufO c.st c.R s)) ∧ lq (c.st.gone q e.s (A ++ C)) q = A ++ C := by
  have ha := h.apart hR
  have hl : c.st.Q[q]? = some (A ++ e :: C) := by rw [lq_some ha.lt, hq]
  obtain ⟨c', ec⟩ : ∃ c' : Cs, c' = { c with st := c.st.gone q e.s (A ++ C) } := ⟨_, rfl⟩
  have l1 : ∀ k, lq c'.st k = if k = q then A ++ C else lq c.st k := fun k => by rw [ec]; exact lq_gone ha.lt _ _ k
  have lf : ∀ k, k ≠ q → lq c'.st k = lq c.st k := fun k hk => by rw [l1, if_neg hk]
  have lm : lq c'.st q = A ++ C := by rw [l1, if_pos rfl]
  have eR : c'.R = c.R := by rw [ec]
  have eS : c'.S = c.S := by rw [ec]
  have eT : c'.T = c.T := by rw [ec]
  have a1 := abs_turn hs hR ha eR lf
  rw [lm] at a1
  have a0 := abs_mid (c := c) hs hR
  rw [hq] at a0
  rw [← ec]
  have a2 : c.abs = (preO c.st c.R s ++ sideO c.st s X ++ A.map (ordE s p)) ++ ordE s p e :: (C.map (ordE s p) ++ (sideO c.st s Y ++ sufO c.st c.R s)) := by rw [a0]; simp [List.append_assoc]
  have a3 : c'.abs = (preO c.st c.R s ++ sideO c.st s X ++ A.map (ordE s p)) ++ (C.map (ordE s p) ++ (sideO c.st s Y ++ sufO c.st c.R s)) := by rw [a1]; simp [List.append_assoc]
  refine ⟨⟨by rw [ec]; exact h.ok.gone hl, by rw [ec]; show (c.st.U.set _ _).length = _; rw [List.length_set]; exact h.room, by rw [eT]; exact h.tl, ?_, fun k hk => ?_, fun s' r hr => ?_, fun s' x1 x2 => by rw [eR]; exact h.none' s' x1 x2, fun s' r x hr hx => ?_, fun s' => by rw [eR]; exact h.sort s', fun s' r hr => h.price s' r (by rw [← eR]; exact hr), ?_, fun s' => ?_⟩, a3, by have k := lm; rw [ec] at k; exact k⟩
  · have : c'.st.Q.length = c.st.Q.length := by rw [ec]; exact List.length_set
    rw [this]; unfold rowQs; rw [eR, eS]; exact h.part
  · rw [eS] at hk
    rw [lf k (fun e0 => ha.p (e0 ▸ hk))]; exact h.spare k hk
  · rw [eR] at hr
    by_cases e0 : r.2 = q
    · exact .inl e0
    · rw [lf _ e0]; exact (h.full s' r hr).elim (fun f => f.elim) .inr
  · rw [eR] at hr
    rw [eT]
    by_cases e0 : r.2 = q
    · rw [e0, lm] at hx
      refine h.seat s' r x hr (by rw [e0, hq]; rcases List.mem_append.1 hx with k | k <;> simp [k])
    · rw [lf _ e0] at hx; exact h.seat s' r x hr hx
  · have := h.ids
    rw [a2] at this
    rw [a3]
    simp only [List.map_append, List.map_cons] at this ⊢
    exact (List.perm_middle.nodup_iff.1 this).tail
  · have f := h.flag s'
    rw [side_turn hR ha eR lf s']
    by_cases e0 : s' = s
    · subst e0
      rw [if_pos rfl, lm]
      rw [hR, sideO_app, sideO, rowO, hq] at f
      simp only [List.map_append, List.map_cons, List.append_assoc, List.cons_append] at f ⊢
      rw [← List.append_assoc] at f ⊢
      exact tail_less f
    · rw [if_neg e0]; exact f
/-- A row whose queue is empty is dropped. -/
theorem CInv.drop {c : Cs} {q : Nat} (h : CInv (fun k => k = q) c) {s : Nat} {p : Int} {X Y : List (Int × Nat)} (hs : s = 1 ∨ s = 2) (hR : c.R s = X ++ (p, q) :: Y) (hq : lq c.st q = []) :
    CInv noEx { c with R := upd c.R s (X ++ Y), S := c.S ++ [q] } ∧ Cs.abs { c with R := upd c.R s (X ++ Y), S := c.S ++ [q] } = c.abs := by
  have ha := h.apart hR
  have sub : ∀ s' r, r ∈ upd c.R s (X ++ Y) s' → r ∈ c.R s' ∧ r.2 ≠ q := fun s' r hr => by
    by_cases e : s' = s
    · subst e
      rw [upd_at] at hr
      rw [hR]
      rcases List.mem_append.1 hr with k | k
      · exact ⟨by simp [k], ha.x r k⟩
      · exact ⟨by simp [k], ha.y r k⟩
    · rw [upd_far _ _ e] at hr
      exact ⟨hr, ha.o s' e r hr⟩
  have eside : ∀ s' : Nat, sideO c.st s' (upd c.R s (X ++ Y) s') = sideO c.st s' (c.R s') := fun s' => by
    by_cases e : s' = s
    · subst e
      rw [upd_at, hR, sideO_app, sideO_app, sideO, rowO, hq]; rfl
    · rw [upd_far _ _ e]
  have eabs : Cs.abs { c with R := upd c.R s (X ++ Y), S := c.S ++ [q] } = c.abs := by
    have e1 := eside 1
    have e2 := eside 2
    show sideO c.st ((1 : Nat) : Int) (upd c.R s (X ++ Y) 1) ++ sideO c.st ((2 : Nat) : Int) (upd c.R s (X ++ Y) 2) = _
    rw [e1, e2]; rfl
  refine ⟨⟨h.ok, h.room, h.tl, ?_, fun k hk => ?_, fun s' r hr => ?_, fun s' x1 x2 => ?_, fun s' r x hr hx => h.seat s' r x (sub s' r hr).1 hx, fun s' => ?_, fun s' r hr => h.price s' r (sub s' r hr).1, by rw [eabs]; exact h.ids, fun s' => ?_⟩, eabs⟩
  · have := h.part
    refine List.Perm.trans ?_ this
    unfold rowQs
    rw [List.perm_iff_count]
    intro a
    rcases hs with rfl | rfl
    · simp only [upd_at, upd_far c.R (X ++ Y) (show 2 ≠ 1 by omega), hR, List.map_append, List.map_cons, List.count_append, List.count_cons, List.count_nil]; omega
    · simp only [upd_at, upd_far c.R (X ++ Y) (show 1 ≠ 2 by omega), hR, List.map_append, List.map_cons, List.count_append, List.count_cons, List.count_nil]; omega
  · rcases List.mem_append.1 hk with k1 | k1
    · exact h.spare k k1
    · rw [List.mem_singleton.1 k1]; exact hq
  · obtain ⟨a, b⟩ := sub s' r hr
    exact (h.full s' r a).elim (fun e => absurd e b) .inr
  · show upd c.R s (X ++ Y) s' = []
    rw [upd_far _ _ (by omega)]; exact h.none' s' x1 x2
  · show (upd c.R s (X ++ Y) s').Pairwise _
    by_cases e : s' = s
    · subst e
      rw [upd_at]
      have := h.sort s'
      rw [hR] at this
      exact this.sublist (by simp)
    · rw [upd_far _ _ e]; exact h.sort s'
  · show ∀ x ∈ (sideO c.st s' (upd c.R s (X ++ Y) s')).tail, x.t = false
    rw [eside]; exact h.flag s'
/-- A queue is opened, and spare. -/
theorem CInv.open' {ex : Nat → Prop} {c : Cs} (h : CInv ex c) : CInv ex { c with st := c.st.opened, S := c.S ++ [c.st.Q.length] } ∧ Cs.abs { c with st := c.st.opened, S := c.S ++ [c.st.Q.length] } = c.abs := by
  have eside : ∀ (s' : Int) (R : List (Int × Nat)), sideO c.st.opened s' R = sideO c.st s' R := fun s' R => sideO_frame s' (fun r _ => lq_opened _ _)
  have eabs : Cs.abs { c with st := c.st.opened, S := c.S ++ [c.st.Q.length] } = c.abs := by
    show sideO c.st.opened 1 (c.R 1) ++ sideO c.st.opened 2 (c.R 2) = _
    rw [eside, eside]; rfl
  refine ⟨⟨h.ok.opened, h.room, h.tl, ?_, fun k hk => ?_, fun s' r hr => ?_, h.none', fun s' r x hr hx => ?_, h.sort, h.price, by rw [eabs]; exact h.ids, fun s' => ?_⟩, eabs⟩
  · show (rowQs { c with st := c.st.opened, S := c.S ++ [c.st.Q.length] }).Perm (List.range (c.st.Q ++ [[]]).length)
    rw [List.length_append, List.length_singleton, List.range_succ]
    unfold rowQs
    rw [← List.append_assoc]
    exact h.part.append_right _
  · show lq c.st.opened k = []
    rw [lq_opened]
    rcases List.mem_append.1 hk with k1 | k1
    · exact h.spare k k1
    · rw [List.mem_singleton.1 k1]; unfold lq; rw [List.getD_eq_getElem?_getD, List.getElem?_eq_none (Nat.le_refl _)]; rfl
  · show ex r.2 ∨ lq c.st.opened r.2 ≠ []
    rw [lq_opened]; exact h.full s' r hr
  · have : x ∈ lq c.st.opened r.2 := hx
    rw [lq_opened] at this
    exact h.seat s' r x hr this
  · show ∀ x ∈ (sideO c.st.opened s' (c.R s')).tail, x.t = false
    rw [eside]; exact h.flag s'
/-- A spare queue gets a row. -/
theorem CInv.row' {c : Cs} (h : CInv noEx c) {s q : Nat} {p : Int} {X Y : List (Int × Nat)} {S0 : List Nat} (hs : s = 1 ∨ s = 2) (hR : c.R s = X ++ Y) (hS : c.S = S0 ++ [q]) (hp : I64 p) (hX : ∀ r ∈ X, bet s r.1 p = true) (hY : ∀ r ∈ Y, bet s p r.1 = true) :
    CInv (fun k => k = q) { c with R := upd c.R s (X ++ (p, q) :: Y), S := S0 } ∧ Cs.abs { c with R := upd c.R s (X ++ (p, q) :: Y), S := S0 } = c.abs ∧ lq c.st q = [] := by
  have hq : lq c.st q = [] := h.spare q (by rw [hS]; simp)
  have sub : ∀ s' r, r ∈ upd c.R s (X ++ (p, q) :: Y) s' → r ∈ c.R s' ∨ (s' = s ∧ r = (p, q)) := fun s' r hr => by
    by_cases e : s' = s
    · subst e
      rw [upd_at] at hr
      rw [hR]
      rcases List.mem_append.1 hr with k | k
      · exact .inl (by simp [k])
      · rcases List.mem_cons.1 k with k | k
        · exact .inr ⟨rfl, k⟩
        · exact .inl (by simp [k])
    · rw [upd_far _ _ e] at hr
      exact .inl hr
  have eside : ∀ s' : Nat, sideO c.st s' (upd c.R s (X ++ (p, q) :: Y) s') = sideO c.st s' (c.R s') := fun s' => by
    by_cases e : s' = s
    · subst e
      rw [upd_at, hR, sideO_app, sideO_app, sideO, rowO, hq]; rfl
    · rw [upd_far _ _ e]
  have eabs : Cs.abs { c with R := upd c.R s (X ++ (p, q) :: Y), S := S0 } = c.abs := by
    have e1 := eside 1
    have e2 := eside 2
    show sideO c.st ((1 : Nat) : Int) (upd c.R s (X ++ (p, q) :: Y) 1) ++ sideO c.st ((2 : Nat) : Int) (upd c.R s (X ++ (p, q) :: Y) 2) = _
    rw [e1, e2]; rfl
  refine ⟨⟨h.ok, h.room, h.tl, ?_, fun k hk => h.spare k (by rw [hS]; simp [show k ∈ S0 from hk]), fun s' r hr => ?_, fun s' x1 x2 => ?_, fun s' r x hr hx => ?_, fun s' => ?_, fun s' r hr => ?_, by rw [eabs]; exact h.ids, fun s' => ?_⟩, eabs, hq⟩
  · have := h.part
    refine List.Perm.trans ?_ this
    unfold rowQs
    rw [List.perm_iff_count]
    intro a
    rcases hs with rfl | rfl
    · simp only [upd_at, upd_far c.R (X ++ (p, q) :: Y) (show 2 ≠ 1 by omega), hR, hS, List.map_append, List.map_cons, List.count_append, List.count_cons, List.count_nil]; omega
    · simp only [upd_at, upd_far c.R (X ++ (p, q) :: Y) (show 1 ≠ 2 by omega), hR, hS, List.map_append, List.map_cons, List.count_append, List.count_cons, List.count_nil]; omega
  · rcases sub s' r hr with k | ⟨_, k⟩
    · exact .inr ((h.full s' r k).elim (fun f => f.elim) id)
    · exact .inl (by rw [k])
  · show upd c.R s _ s' = []
    rw [upd_far _ _ (by omega)]; exact h.none' s' x1 x2
  · rcases sub s' r hr with k | ⟨_, k⟩
    · exact h.seat s' r x k hx
    · rw [k] at hx
      have hx' : x ∈ lq c.st q := hx
      rw [hq] at hx'; cases hx'
  · show (upd c.R s _ s').Pairwise _
    by_cases e : s' = s
    · subst e
      rw [upd_at]
      have := h.sort s'
      rw [hR, List.pairwise_append] at this
      obtain ⟨a, b, d⟩ := this
      rw [List.pairwise_append, List.pairwise_cons]
      refine ⟨a, ⟨hY, b⟩, fun x hx y hy => ?_⟩
      rcases List.mem_cons.1 hy with rfl | hy
      · exact hX x hx
      · exact d x hx y hy
    · rw [upd_far _ _ e]; exact h.sort s'
  · rcases sub s' r hr with k | ⟨_, k⟩
    · exact h.price s' r k
    · rw [k]; exact hp
  · show ∀ x ∈ (sideO c.st s' (upd c.R s _ s')).tail, x.t = false
    rw [eside]; exact h.flag s'
/-- A new order at the end of a row's queue. -/
theorem CInv.push {c : Cs} {q : Nat} (h : CInv (fun k => k = q) c) {s : Nat} {p : Int} {X Y : List (Int × Nat)} (hs : s = 1 ∨ s = 2) (hR : c.R s = X ++ (p, q) :: Y) {l : List En} (hq : lq c.st q = l) {e : En} (hf : c.st.U[e.s]? = some false) (h1 : 1 ≤ e.n) (h2 : e.n ≤ 1000000) (h3 : I64 e.i) (hi : ∀ x ∈ c.abs, x.i ≠ e.i)
    (ht : (e.t = false ∧ sideO c.st s X ++ l.map (ordE s p) ≠ []) ∨ (sideO c.st s X ++ l.map (ordE s p) = [] ∧ ∀ x ∈ sideO c.st s Y, x.t = false)) :
    CInv noEx { c with st := c.st.pushed q e.s l e, T := c.T.set e.s ((s : Int), p) } ∧ Cs.abs { c with st := c.st.pushed q e.s l e, T := c.T.set e.s ((s : Int), p) } = (preO c.st c.R s ++ (sideO c.st s X ++ l.map (ordE s p))) ++ ordE s p e :: (sideO c.st s Y ++ sufO c.st c.R s) ∧
    c.abs = (preO c.st c.R s ++ (sideO c.st s X ++ l.map (ordE s p))) ++ (sideO c.st s Y ++ sufO c.st c.R s) := by
  have ha := h.apart hR
  have hl : c.st.Q[q]? = some l := by rw [lq_some ha.lt, hq]
  obtain ⟨c', ec⟩ : ∃ c' : Cs, c' = { c with st := c.st.pushed q e.s l e, T := c.T.set e.s ((s : Int), p) } := ⟨_, rfl⟩
  have l1 : ∀ k, lq c'.st k = if k = q then l ++ [e] else lq c.st k := fun k => by rw [ec]; exact lq_pushed ha.lt _ _ _ k
  have lf : ∀ k, k ≠ q → lq c'.st k = lq c.st k := fun k hk => by rw [l1, if_neg hk]
  have lm : lq c'.st q = l ++ [e] := by rw [l1, if_pos rfl]
  have eR : c'.R = c.R := by rw [ec]
  have eS : c'.S = c.S := by rw [ec]
  have eT : c'.T = c.T.set e.s ((s : Int), p) := by rw [ec]
  have a1 := abs_turn hs hR ha eR lf
  rw [lm] at a1
  have a0 := abs_mid (c := c) hs hR
  rw [hq] at a0
  rw [← ec]
  have a2 : c.abs = (preO c.st c.R s ++ (sideO c.st s X ++ l.map (ordE s p))) ++ (sideO c.st s Y ++ sufO c.st c.R s) := by rw [a0]; simp [List.append_assoc]
  have a3 : c'.abs = (preO c.st c.R s ++ (sideO c.st s X ++ l.map (ordE s p))) ++ ordE s p e :: (sideO c.st s Y ++ sufO c.st c.R s) := by rw [a1]; simp [List.append_assoc]
  have hlt : e.s < c.T.length := by rw [h.tl, ← h.room]; exact (List.getElem?_eq_some_iff.1 hf).1
  have hne : ∀ (s' : Nat) (r : Int × Nat) (x : En), r ∈ c.R s' → x ∈ lq c.st r.2 → x.s ≠ e.s := fun s' r x hr hx => used_ne h.ok hf (lq_some (lq_lt hx)) hx
  refine ⟨⟨by rw [ec]; exact h.ok.pushed hl hf h1 h2 h3, by rw [ec]; show (c.st.U.set _ _).length = _; rw [List.length_set]; exact h.room, by rw [eT, List.length_set]; exact h.tl, ?_, fun k hk => ?_, fun s' r hr => ?_, fun s' x1 x2 => by rw [eR]; exact h.none' s' x1 x2, fun s' r x hr hx => ?_, fun s' => by rw [eR]; exact h.sort s', fun s' r hr => h.price s' r (by rw [← eR]; exact hr), ?_, fun s' => ?_⟩, a3, a2⟩
  · have : c'.st.Q.length = c.st.Q.length := by rw [ec]; exact List.length_set
    rw [this]; unfold rowQs; rw [eR, eS]; exact h.part
  · rw [eS] at hk
    rw [lf k (fun e0 => ha.p (e0 ▸ hk))]; exact h.spare k hk
  · rw [eR] at hr
    by_cases e0 : r.2 = q
    · exact .inr (by rw [e0, lm]; simp)
    · rw [lf _ e0]; exact (h.full s' r hr).elim (fun f => absurd f e0) .inr
  · rw [eR] at hr
    rw [eT, set_get]
    by_cases e0 : r.2 = q
    · obtain ⟨rfl, rfl⟩ := mine_only hR ha hr e0
      rw [lm] at hx
      rcases List.mem_append.1 hx with k | k
      · rw [if_neg (fun e1 => hne s' (p, q) x hr (by show x ∈ lq c.st q; rw [hq]; exact k) e1.symm)]
        exact h.seat s' (p, q) x hr (by show x ∈ lq c.st q; rw [hq]; exact k)
      · rw [List.mem_singleton.1 k, if_pos rfl, if_pos hlt]
    · rw [lf _ e0] at hx
      rw [if_neg (fun e1 => hne s' r x hr hx e1.symm)]
      exact h.seat s' r x hr hx
  · have := h.ids
    rw [a2] at this
    rw [a3]
    rw [List.map_append] at this
    rw [List.map_append, List.map_cons]
    rw [List.perm_middle.nodup_iff, List.nodup_cons]
    refine ⟨fun hm => ?_, this⟩
    rw [← List.map_append, ← a2] at hm
    obtain ⟨x, hx, ex⟩ := List.mem_map.1 hm
    exact hi x hx ex
  · have f := h.flag s'
    rw [side_turn hR ha eR lf s']
    by_cases e0 : s' = s
    · subst e0
      rw [if_pos rfl, lm]
      rw [hR, sideO_app, sideO, rowO, hq] at f
      simp only [List.map_append, List.map_cons, List.map_nil, List.append_assoc, List.cons_append, List.nil_append] at f ⊢
      rw [← List.append_assoc] at f ⊢
      rcases ht with ⟨t1, t2⟩ | ⟨t1, t2⟩
      · obtain ⟨u, U, eu⟩ := List.exists_cons_of_ne_nil t2
        rw [eu] at f ⊢
        simp only [List.cons_append, List.tail_cons, List.mem_append, List.mem_cons] at f ⊢
        intro z hz
        rcases hz with hz | rfl | hz
        · exact f z (.inl hz)
        · exact t1
        · exact f z (.inr hz)
      · rw [t1]; exact t2
    · rw [if_neg e0]; exact f
end Go.Proofs.Ytlknlicokacoiaa
