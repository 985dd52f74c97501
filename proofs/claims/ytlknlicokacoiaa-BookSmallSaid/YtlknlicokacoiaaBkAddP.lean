/-
  Adding, in plain lists: the top, the row, the order behind all of its price.
-/
import Derived.Test.YtlknlicokacoiaaBkEnd
import Derived.Test.YtlknlicokacoiaaBkEq
import Derived.Test.YtlknlicokacoiaaBkSwap
import Derived.Test.YtlknlicokacoiaaBkRefuse
namespace Go.Proofs.Ytlknlicokacoiaa
open Go.RowKit
set_option linter.unusedVariables false
set_option linter.unusedSimpArgs false

theorem side_split {c : Cs} {ex : Nat → Prop} (h : CInv ex c) {s : Nat} (hs : s = 1 ∨ s = 2) : ∀ x ∈ c.abs, x.s = (s : Int) → x ∈ sideO c.st s (c.R s) := fun x hx e => by
  obtain ⟨s', r, e', hs', hr, he, rfl⟩ := mem_abs hx
  have : s' = s := by have e2 : (s' : Int) = (s : Int) := e; omega
  subst this
  exact mem_sideO.2 ⟨r, hr, e', he, rfl⟩
theorem clr_off {s : Int} {x : Or} (h : x.s ≠ s) : clr s x = x := if_neg h
theorem clr_false {s : Int} {x : Or} (h : x.t = false) : clr s x = x := by
  unfold clr; split
  · obtain ⟨i, s', p, n, t⟩ := x; simp only at h; subst h; rfl
  · rfl
theorem map_id_of {α : Type} {f : α → α} : ∀ {l : List α}, (∀ x ∈ l, f x = x) → l.map f = l := by
  intro l
  induction l with
  | nil => intro _; rfl
  | cons x l ih => intro h; rw [List.map_cons, h x (by simp), ih (fun y hy => h y (by simp [hy]))]
theorem preO_s {st : St} {R : Nat → List (Int × Nat)} {s : Nat} (hs : s = 1 ∨ s = 2) : ∀ x ∈ preO st R s, x.s < (s : Int) := fun x hx => by
  rcases hs with rfl | rfl
  · unfold preO at hx; rw [if_pos rfl] at hx; cases hx
  · unfold preO at hx; rw [if_neg (by omega)] at hx
    obtain ⟨r, hr, e, he, rfl⟩ := mem_sideO.1 hx
    show (1 : Int) < ((2 : Nat) : Int); omega
theorem sufO_s {st : St} {R : Nat → List (Int × Nat)} {s : Nat} (hs : s = 1 ∨ s = 2) : ∀ x ∈ sufO st R s, (s : Int) < x.s := fun x hx => by
  rcases hs with rfl | rfl
  · unfold sufO at hx; rw [if_pos rfl] at hx
    obtain ⟨r, hr, e, he, rfl⟩ := mem_sideO.1 hx
    show ((1 : Nat) : Int) < 2; omega
  · unfold sufO at hx; rw [if_neg (by omega)] at hx; cases hx
theorem endC_R (c : Cs) (s : Nat) : (endC c s).R = c.R ∧ (endC c s).T = c.T ∧ (endC c s).S = c.S := by
  unfold endC
  split
  · exact ⟨rfl, rfl, rfl⟩
  · split <;> exact ⟨rfl, rfl, rfl⟩
theorem CInv.endC {c : Cs} (h : CInv noEx c) {s : Nat} (hs : s = 1 ∨ s = 2) : CInv noEx (endC c s) ∧ (endC c s).abs = c.abs.map (clr (s : Int)) := by
  cases hR : c.R s with
  | nil =>
    have eC : Go.Proofs.Ytlknlicokacoiaa.endC c s = c := by unfold Go.Proofs.Ytlknlicokacoiaa.endC; rw [hR]
    rw [eC]
    refine ⟨h, (map_id_of (fun x hx => ?_)).symm⟩
    by_cases e : x.s = (s : Int)
    · have := side_split h hs x hx e
      rw [hR] at this; cases this
    · exact clr_off e
  | cons r R' =>
    obtain ⟨p, q⟩ := r
    have hne := (h.full s (p, q) (by rw [hR]; simp)).resolve_left (fun f => f)
    obtain ⟨e, l, hl⟩ := List.exists_cons_of_ne_nil hne
    simp only at hl
    have eC : Go.Proofs.Ytlknlicokacoiaa.endC c s = { c with st := c.st.turned q ({ e with t := false } :: l) } := by unfold Go.Proofs.Ytlknlicokacoiaa.endC; rw [hR]; simp only; rw [hl]
    have hqQ := (h.apart (X := []) (Y := R') (p := p) (q := q) hR).lt
    obtain ⟨f1, f2, -⟩ := h.ok.fit q _ e (by rw [lq_some hqQ, hl]) (by simp)
    obtain ⟨i1, a1, a0⟩ := h.turn (X := []) (Y := R') (A := []) (C := l) (e := e) (e' := { e with t := false }) hs hR hl rfl rfl f1 f2 (fun _ => rfl)
    have fl := h.flag s
    rw [hR, sideO, rowO, hl, List.map_cons, List.cons_append, List.tail_cons] at fl
    rw [eC]
    refine ⟨i1, ?_⟩
    refine Eq.trans a1 ?_
    rw [a0]
    have hpre : (preO c.st c.R s).map (clr (s : Int)) = preO c.st c.R s := map_id_of (fun x hx => clr_off (by have := preO_s hs x hx; omega))
    have hsuf : (sufO c.st c.R s).map (clr (s : Int)) = sufO c.st c.R s := map_id_of (fun x hx => clr_off (by have := sufO_s hs x hx; omega))
    have hl' : (l.map (ordE (s : Int) p)).map (clr (s : Int)) = l.map (ordE (s : Int) p) := map_id_of (fun x hx => clr_false (fl x (List.mem_append.2 (.inl hx))))
    have hR' : (sideO c.st s R').map (clr (s : Int)) = sideO c.st s R' := map_id_of (fun x hx => clr_false (fl x (List.mem_append.2 (.inr hx))))
    simp only [List.map_append, List.map_cons, hpre, hsuf, hl', hR', sideO, List.map_nil, List.append_nil]
    congr 2
    unfold clr ordE
    rw [if_pos rfl]
theorem topB_false {L : List Or} {s p : Int} {x : Or} (hx : x ∈ L) (h : bars s p x = true) : topB L s p = false := by
  unfold topB; rw [List.any_eq_true.2 ⟨x, hx, h⟩]; rfl
theorem topB_true {L : List Or} {s p : Int} (h : ∀ x ∈ L, bars s p x = false) : topB L s p = true := by
  unfold topB; rw [List.any_eq_false.2 (fun x hx => by rw [h x hx]; decide)]; rfl
theorem bars_of {s p : Int} {x : Or} (h1 : x.s = s) (h2 : bet s p x.p = false) : bars s p x = true := by unfold bars; simp [h1, h2]
theorem bars_no {s p : Int} {x : Or} (h : x.s = s → bet s p x.p = true) : bars s p x = false := by
  unfold bars
  by_cases e : x.s = s
  · simp [e, h e]
  · simp [e]
/-- Whether a new order is its side's top. -/
theorem CInv.top {c : Cs} (h : CInv noEx c) {s : Nat} (hs : s = 1 ∨ s = 2) (p : Int) : topB c.abs (s : Int) p = (decide (placeN (s : Int) p (c.R s) = 0) && !foundB (s : Int) p (c.R s)) := by
  cases hf : foundB (s : Int) p (c.R s) with
  | true =>
    obtain ⟨X, q, Y, hR, -⟩ := place_found (h.sort s) hf
    have hne := (h.full s (p, q) (by rw [hR]; simp)).resolve_left (fun f => f)
    obtain ⟨e, l, hl⟩ := List.exists_cons_of_ne_nil hne
    have := topB_false (L := c.abs) (s := (s : Int)) (p := p) (abs_mem hs (r := (p, q)) (e := e) (by rw [hR]; simp) (by rw [hl]; simp)) (bars_of rfl (bet_self _ _))
    rw [this]
    simp
  | false =>
    obtain ⟨X, Y, hR, hX, hbX, hbY⟩ := place_not (h.sort s) hf
    cases X with
    | nil =>
      rw [← hX]
      rw [topB_true (fun x hx => bars_no (fun e => ?_))]
      · rfl
      · have hm := side_split h hs x hx e
        rw [hR, List.nil_append] at hm
        obtain ⟨r, hr, e', he, rfl⟩ := mem_sideO.1 hm
        exact hbY r hr
    | cons r X =>
      have hne := (h.full s r (by rw [hR]; simp)).resolve_left (fun f => f)
      obtain ⟨e, l, hl⟩ := List.exists_cons_of_ne_nil hne
      have := topB_false (L := c.abs) (s := (s : Int)) (p := p) (abs_mem hs (r := r) (e := e) (by rw [hR]; simp) (by rw [hl]; simp)) (bars_of rfl (bet_asym (hbX r (by simp))))
      rw [this, ← hX]; simp
theorem clrL_mem {L : List Or} {s p : Int} {x : Or} (hx : x ∈ clrL L s p) : ∃ y ∈ L, x.i = y.i ∧ x.s = y.s ∧ x.p = y.p ∧ (topB L s p = true → x.s = s → x.t = false) := by
  unfold clrL at hx
  split at hx
  · obtain ⟨y, hy, rfl⟩ := List.mem_map.1 hx
    exact ⟨y, hy, clr_i _ _, clr_s _ _, clr_p _ _, fun _ e => by unfold clr at *; split at e <;> simp_all⟩
  · rename_i hn
    exact ⟨x, hx, rfl, rfl, rfl, fun e => absurd e hn⟩
theorem clrL_fwd {L : List Or} {s p : Int} {y : Or} (hy : y ∈ L) : ∃ x ∈ clrL L s p, x.s = y.s ∧ x.p = y.p := by
  unfold clrL
  split
  · exact ⟨clr s y, List.mem_map.2 ⟨y, hy, rfl⟩, clr_s _ _, clr_p _ _⟩
  · exact ⟨y, hy, rfl, rfl⟩
/-- The new order stands where the document says. -/
theorem add_plain {L : List Or} {c : Cs} {s q : Nat} {p i n : Int} {X Y : List (Int × Nat)} {m : Nat} (h : CInv (fun k => k = q) c) (hs : s = 1 ∨ s = 2) (hR : c.R s = X ++ (p, q) :: Y) (hL : c.abs = clrL L (s : Int) p) (hi : hasI L i = false) (hf : c.st.U[m]? = some false) (h1 : 1 ≤ n) (h2 : n ≤ 1000000) (h3 : I64 i) :
    CInv noEx { c with st := c.st.pushed q m (lq c.st q) ⟨m, i, n, topB L (s : Int) p⟩, T := c.T.set m ((s : Int), p) } ∧ Cs.abs { c with st := c.st.pushed q m (lq c.st q) ⟨m, i, n, topB L (s : Int) p⟩, T := c.T.set m ((s : Int), p) } = insO L i (s : Int) p n := by
  obtain ⟨-, -, hbX, hbY⟩ := bet_rows (h.sort s) hR
  have a0 := abs_mid (c := c) hs hR
  have hids : ∀ x ∈ c.abs, x.i ≠ i := fun x hx e => by
    rw [hL] at hx
    obtain ⟨y, hy, e1, -⟩ := clrL_mem hx
    rw [hasI_yes hy (e1.symm.trans e)] at hi; cases hi
  have inA : ∀ x ∈ sideO c.st s X ++ (lq c.st q).map (ordE (s : Int) p), x ∈ c.abs ∧ x.s = (s : Int) ∧ bet (s : Int) p x.p = false := fun x hx => by
    refine ⟨by rw [a0]; rcases List.mem_append.1 hx with k | k <;> simp [k], ?_⟩
    rcases List.mem_append.1 hx with k | k
    · obtain ⟨r, hr, e', he, rfl⟩ := mem_sideO.1 k
      exact ⟨rfl, bet_asym (hbX r hr)⟩
    · obtain ⟨e', he, rfl⟩ := List.mem_map.1 k
      exact ⟨rfl, bet_self _ _⟩
  have ht : (topB L (s : Int) p = false ∧ sideO c.st s X ++ (lq c.st q).map (ordE s p) ≠ []) ∨ (sideO c.st s X ++ (lq c.st q).map (ordE s p) = [] ∧ ∀ x ∈ sideO c.st s Y, x.t = false) := by
    cases htop : topB L (s : Int) p with
    | false =>
      refine .inl ⟨rfl, fun hnil => ?_⟩
      have : topB L (s : Int) p = true := topB_true (fun y hy => bars_no (fun e => ?_))
      · rw [htop] at this; cases this
      · obtain ⟨x, hx, e1, e2⟩ := clrL_fwd (s := (s : Int)) (p := p) hy
        rw [← hL] at hx
        have hm := side_split h hs x hx (e1.trans e)
        rw [hR, sideO_app, sideO, rowO] at hm
        rw [← e2]
        rcases List.mem_append.1 hm with k | k
        · have hz : x ∈ ([] : List Or) := by rw [← hnil]; simp [k]
          cases hz
        · rcases List.mem_append.1 k with k | k
          · have hz : x ∈ ([] : List Or) := by rw [← hnil]; exact List.mem_append.2 (.inr k)
            cases hz
          · obtain ⟨r, hr, e', he, rfl⟩ := mem_sideO.1 k
            exact hbY r hr
    | true =>
      refine .inr ⟨List.eq_nil_iff_forall_not_mem.2 (fun x hx => ?_), fun x hx => ?_⟩
      · obtain ⟨k1, k2, k3⟩ := inA x hx
        rw [hL] at k1
        obtain ⟨y, hy, -, e2, e3, -⟩ := clrL_mem k1
        have := topB_false hy (bars_of (e2.symm.trans k2) (by rw [← e3]; exact k3))
        rw [htop] at this; cases this
      · have hm : x ∈ c.abs := by rw [a0]; simp [hx]
        rw [hL] at hm
        obtain ⟨y, hy, -, -, -, e4⟩ := clrL_mem hm
        obtain ⟨r, hr, e', he, rfl⟩ := mem_sideO.1 hx
        exact e4 htop rfl
  obtain ⟨i1, a1, a2⟩ := h.push (e := ⟨m, i, n, topB L (s : Int) p⟩) hs hR rfl hf h1 h2 h3 hids (by exact ht)
  refine ⟨i1, ?_⟩
  refine Eq.trans a1 (Eq.symm ?_)
  refine (insO_eq (hL.symm.trans a2) (fun x hx => ?_) (fun x hx => ?_)).trans rfl
  · rcases List.mem_append.1 hx with k | k
    · have := preO_s hs x k
      unfold ahead; simp [this]
    · obtain ⟨-, k2, k3⟩ := inA x k
      unfold ahead; simp [k2, k3]
  · rcases List.mem_append.1 hx with k | k
    · obtain ⟨r, hr, e', he, rfl⟩ := mem_sideO.1 k
      have := hbY r hr
      unfold ahead ordE; simp [this]
    · have := sufO_s hs x k
      unfold ahead
      have h1 : ¬ x.s < (s : Int) := by omega
      have h2 : ¬ x.s = (s : Int) := by omega
      simp [h1, h2]
theorem free_slot {c : Cs} {ex : Nat → Prop} (h : CInv ex c) (hl : c.abs.length < 250) : ∃ m : Nat, lowF c.st.U 0 = (m : Int) ∧ c.st.U[m]? = some false := by
  rcases lowF_cases c.st.U 0 with ⟨h1, h2⟩ | ⟨j, h1, h2, -⟩
  · have hf := h.free
    have : c.st.U.count false = 0 := List.count_eq_zero.2 (fun hm => by have := h2 _ hm; cases this)
    omega
  · exact ⟨j, by rw [h1, Nat.zero_add], h2⟩
theorem refO_zero {L : List Or} {i s n : Int} (h : refO L i s n = 0) : (s = 1 ∨ s = 2) ∧ 1 ≤ n ∧ n ≤ 1000000 ∧ hasI L i = false ∧ L.length < 250 := by
  unfold refO sideB at h
  by_cases h1 : s = 1 ∨ s = 2 <;> by_cases h2 : (n < 1 ∨ 1000000 < n) <;> by_cases h3 : hasI L i = true <;> by_cases h4 : 250 ≤ L.length <;> simp [h1, h2, h3, h4] at h
  refine ⟨h1, by omega, by omega, by simpa using h3, by omega⟩
end Go.Proofs.Ytlknlicokacoiaa
