/-
  What pushing, taking and marking turn: the places linked anew are the document's arena again. Plain lists.
-/
import Derived.Test.YtlknlicokacoiaaLv
namespace Go.Proofs.Ytlknlicokacoiaa
open Go.RowKit
set_option linter.unusedVariables false
set_option linter.unusedSimpArgs false

/-- The place of a new order. -/
def newP (q : Nat) (e : En) : Pl := ⟨(e.s : Int), e.i, e.n, e.t, (q : Int), 0, 0⟩
theorem opt_map_id {α : Type} {o : Option α} {f : α → α} (h : ∀ r, o = some r → f r = r) : o.map f = o := by
  cases o with
  | none => rfl
  | some r => simp only [Option.map_some]; rw [h r rfl]
theorem used_ne {st : St} (h : st.Ok) {s : Nat} (hf : st.U[s]? = some false) {q : Nat} {l : List En} {x : En} (a : st.Q[q]? = some l) (b : x ∈ l) : x.s ≠ s := fun c => by
  have := (h.use s).2 ⟨q, l, x, a, b, c⟩
  rw [hf] at this; cases this
theorem Inv.pushed {L : List Pl} {E : List (Int × Int)} {st : St} (h : Inv L E st) {q : Nat} {l : List En} {e : En} (hl : st.Q[q]? = some l) (hf : st.U[e.s]? = some false) (h1 : 1 ≤ e.n) (h2 : e.n ≤ 1000000) (h3 : I64 e.i) :
    Inv (linkL (linkL (L.set e.s (newP q e)) (lsS l (-1)) (e.s : Int)) (e.s : Int) (-1)) (linkE (linkE E q (lsS l (-1)) (e.s : Int)) q (e.s : Int) (-1)) (st.pushed q e.s l e) := by
  have hlt : e.s < st.U.length := (List.getElem?_eq_some_iff.1 hf).1
  have hql : q < st.Q.length := (List.getElem?_eq_some_iff.1 hl).1
  have hLs : e.s < L.length := by rw [h.len]; exact hlt
  have hge := lsS_ge l
  have hln : lsS l (-1) ≠ (e.s : Int) := by
    rcases lsS_cases l (-1) with ⟨_, e0⟩ | ⟨A, y, rfl, e0⟩
    · omega
    · rw [e0]; intro e1
      exact used_ne h.ok hf hl (x := y) (by simp) (by omega)
  have hget : ∀ j, (linkL (linkL (L.set e.s (newP q e)) (lsS l (-1)) (e.s : Int)) (e.s : Int) (-1))[j]? = if j = e.s then some ⟨(e.s : Int), e.i, e.n, e.t, (q : Int), lsS l (-1), -1⟩ else (L[j]?).map (fun r => { r with x := if (j : Int) = lsS l (-1) then (e.s : Int) else r.x }) := fun j => by
    rw [linkL_get _ _ _ (by omega) (by omega), linkL_get _ _ _ hge (by omega), set_get]
    by_cases hj : j = e.s
    · subst hj
      rw [if_pos rfl, if_pos hLs, if_pos rfl]
      simp only [Option.map_some, newP]
      rw [if_pos (trivial : True), if_neg (show ¬ ((e.s : Int)) = -1 by omega), if_pos (trivial : True)]
    · rw [if_neg (fun c => hj c.symm), if_neg hj]
      cases L[j]? with
      | none => rfl
      | some r =>
        simp only [Option.map_some]
        rw [if_neg (show ¬ (j : Int) = (e.s : Int) by omega), if_neg (show ¬ (j : Int) = (e.s : Int) by omega), if_neg (show ¬ (j : Int) = -1 by omega)]
  refine ⟨h.ok.pushed hl hf h1 h2 h3, ?_, ?_, ?_, ?_⟩
  · rw [linkL_len, linkL_len, List.length_set, h.len]; simp [St.pushed]
  · rw [linkE_len, linkE_len, h.elen]; simp [St.pushed]
  · intro q' l' hl'
    rw [linkE_get, linkE_get]
    rcases get_set hl' with ⟨rfl, rfl, _⟩ | ⟨n1, hl''⟩
    · obtain ⟨a, b⟩ := h.seg _ _ hl
      rw [a]
      simp only [Option.map_some]
      rw [if_pos (trivial : True), if_pos (trivial : True)]
      refine ⟨?_, ?_⟩
      · rw [if_neg (show ¬ (e.s : Int) = -1 by omega), if_pos (trivial : True), lsS_app, hdS_app]
        congr 2
        rcases lsS_cases l (-1) with ⟨rfl, e0⟩ | ⟨A, y, rfl, e0⟩
        · rfl
        · rw [if_neg (by omega)]
          cases A <;> rfl
      · refine Seg.append.2 ⟨Seg.rex (e.s : Int) b (h.ok.nd _ _ hl) (fun x hx => ?_), ?_, trivial⟩
        · rw [hget, if_neg (used_ne h.ok hf hl hx)]
        · rw [hget, if_pos rfl]; rfl
    · obtain ⟨a, b⟩ := h.seg _ _ hl''
      rw [a]
      simp only [Option.map_some]
      rw [if_neg n1, if_neg n1]
      refine ⟨rfl, b.frame (fun x hx => ?_)⟩
      rw [hget, if_neg (used_ne h.ok hf hl'' hx)]
      refine opt_map_id (fun r hr => ?_)
      have hxl : ¬ (x.s : Int) = lsS l (-1) := fun c => by
        rcases lsS_cases l (-1) with ⟨_, e0⟩ | ⟨A, y, e1, e0⟩
        · omega
        · exact h.ok.far _ _ _ _ hl'' hl n1 x hx y (by rw [e1]; simp) (by omega)
      rw [if_neg hxl]
  · intro s hs
    have hs' : (st.U.set e.s true)[s]? = some false := hs
    rw [set_get] at hs'
    split at hs'
    · first | (split at hs' <;> cases hs') | cases hs'
    · rename_i hne
      rw [hget, if_neg (fun c => hne c.symm), h.free s hs']
      simp only [Option.map_some]
      have : ¬ (s : Int) = lsS l (-1) := fun c => by
        rcases lsS_cases l (-1) with ⟨_, e0⟩ | ⟨A, y, e1, e0⟩
        · omega
        · exact used_ne h.ok hs' hl (x := y) (by rw [e1]; simp) (by omega)
      rw [if_neg this]

/-! An order is gone. -/
def St.gone (st : St) (q s : Nat) (l : List En) : St := ⟨st.U.set s false, st.Q.set q l⟩
theorem nodup_mid {A C : List En} {e : En} (h : ((A ++ e :: C).map En.s).Nodup) : ((A ++ C).map En.s).Nodup ∧ (A.map En.s).Nodup ∧ (C.map En.s).Nodup ∧ (∀ x ∈ A, x.s ≠ e.s) ∧ (∀ x ∈ C, x.s ≠ e.s) ∧ (∀ x ∈ A, ∀ y ∈ C, x.s ≠ y.s) := by
  rw [List.map_append, List.map_cons, List.nodup_append, List.nodup_cons] at h
  obtain ⟨h1, ⟨h2, h3⟩, h4⟩ := h
  refine ⟨?_, h1, h3, fun x hx => h4 _ (List.mem_map.2 ⟨x, hx, rfl⟩) _ (by simp), fun x hx c => h2 (List.mem_map.2 ⟨x, hx, c⟩), fun x hx y hy => h4 _ (List.mem_map.2 ⟨x, hx, rfl⟩) _ (by simp; exact .inr ⟨y, hy, rfl⟩)⟩
  rw [List.map_append, List.nodup_append]
  exact ⟨h1, h3, fun a ha b hb => h4 a ha b (by simp at hb ⊢; exact .inr hb)⟩
theorem St.Ok.gone {st : St} (h : st.Ok) {q : Nat} {A C : List En} {e : En} (hl : st.Q[q]? = some (A ++ e :: C)) : (st.gone q e.s (A ++ C)).Ok := by
  have hql : q < st.Q.length := (List.getElem?_eq_some_iff.1 hl).1
  have hu : st.U[e.s]? = some true := (h.use e.s).2 ⟨q, _, e, hl, by simp, rfl⟩
  obtain ⟨n1, n2, n3, n4, n5, n6⟩ := nodup_mid (h.nd _ _ hl)
  have sub : ∀ x ∈ A ++ C, x ∈ A ++ e :: C := fun x hx => by
    rcases List.mem_append.1 hx with c | c
    · exact List.mem_append.2 (.inl c)
    · exact List.mem_append.2 (.inr (List.mem_cons_of_mem _ c))
  have sne : ∀ x ∈ A ++ C, x.s ≠ e.s := fun x hx => by
    rcases List.mem_append.1 hx with c | c
    · exact n4 x c
    · exact n5 x c
  refine ⟨fun q' l' hl' => ?_, fun q1 q2 l1 l2 a b hq x hx y hy => ?_, fun s => ?_, fun q' l' x hl' hx => ?_, ?_⟩
  · rcases get_set hl' with ⟨rfl, rfl, _⟩ | ⟨_, hl''⟩
    · exact n1
    · exact h.nd _ _ hl''
  · rcases get_set a with ⟨rfl, rfl, _⟩ | ⟨m1, a'⟩
    · rcases get_set b with ⟨rfl, rfl, _⟩ | ⟨m2, b'⟩
      · exact absurd rfl hq
      · exact h.far _ _ _ _ hl b' hq x (sub x hx) y hy
    · rcases get_set b with ⟨rfl, rfl, _⟩ | ⟨m2, b'⟩
      · exact h.far _ _ _ _ a' hl hq x hx y (sub y hy)
      · exact h.far _ _ _ _ a' b' hq x hx y hy
  · show (st.U.set e.s false)[s]? = some true ↔ _
    rw [set_get]
    by_cases hs : e.s = s
    · rw [if_pos hs, if_pos (List.getElem?_eq_some_iff.1 hu).1]
      refine ⟨(fun c => by cases c), fun ⟨q', l', x, a, b, c⟩ => ?_⟩
      rcases get_set a with ⟨rfl, rfl, _⟩ | ⟨m1, a'⟩
      · exact absurd (c.trans hs.symm) (sne x b)
      · exact absurd (hs.trans c.symm) (h.far _ _ _ _ hl a' (fun d => m1 d.symm) e (by simp) x b)
    · rw [if_neg hs, h.use s]
      constructor
      · rintro ⟨q', l', x, a, b, c⟩
        by_cases hq : q = q'
        · subst hq
          have : A ++ e :: C = l' := by rw [hl] at a; injection a
          subst this
          refine ⟨q, A ++ C, x, by show (st.Q.set q (A ++ C))[q]? = _; rw [set_get, if_pos rfl, if_pos hql], ?_, c⟩
          rcases List.mem_append.1 b with b | b
          · exact List.mem_append.2 (.inl b)
          · rcases List.mem_cons.1 b with rfl | b
            · exact absurd c hs
            · exact List.mem_append.2 (.inr b)
        · exact ⟨q', l', x, by show (st.Q.set q (A ++ C))[q']? = _; rw [set_get, if_neg hq]; exact a, b, c⟩
      · rintro ⟨q', l', x, a, b, c⟩
        rcases get_set a with ⟨rfl, rfl, _⟩ | ⟨_, a'⟩
        · exact ⟨_, _, x, hl, sub x b, c⟩
        · exact ⟨q', l', x, a', b, c⟩
  · rcases get_set hl' with ⟨rfl, rfl, _⟩ | ⟨_, hl''⟩
    · exact h.fit _ _ _ hl (sub x hx)
    · exact h.fit _ _ _ hl'' hx
  · have a := sum_set List.length st.Q q _ (A ++ C) hl
    have b := count_unset st.U e.s hu
    have c := h.sum
    show ((st.Q.set q (A ++ C)).map List.length).sum = (st.U.set e.s false).count true
    rw [List.length_append, List.length_append, List.length_cons] at a
    omega
theorem Inv.gone {L : List Pl} {E : List (Int × Int)} {st : St} (h : Inv L E st) {q : Nat} {A C : List En} {e : En} (hl : st.Q[q]? = some (A ++ e :: C)) :
    Inv ((linkL L (lsS A (-1)) (hdS C (-1))).set e.s zeroP) (linkE E q (lsS A (-1)) (hdS C (-1))) (st.gone q e.s (A ++ C)) := by
  have hql : q < st.Q.length := (List.getElem?_eq_some_iff.1 hl).1
  have hu : st.U[e.s]? = some true := (h.ok.use e.s).2 ⟨q, _, e, hl, by simp, rfl⟩
  have hlt : e.s < st.U.length := (List.getElem?_eq_some_iff.1 hu).1
  obtain ⟨n1, n2, n3, n4, n5, n6⟩ := nodup_mid (h.ok.nd _ _ hl)
  have hget : ∀ j, ((linkL L (lsS A (-1)) (hdS C (-1))).set e.s zeroP)[j]? = if j = e.s then some zeroP else (L[j]?).map (fun r => { r with x := if (j : Int) = lsS A (-1) then hdS C (-1) else r.x, p := if (j : Int) = hdS C (-1) then lsS A (-1) else r.p }) := fun j => by
    rw [set_get, linkL_len, h.len]
    by_cases hj : j = e.s
    · rw [if_pos hj.symm, if_pos hlt, if_pos hj]
    · rw [if_neg (fun c => hj c.symm), if_neg hj, linkL_get _ _ _ (lsS_ge A) (hdS_ge C)]
  have hA : ∀ {d : Int}, 0 ≤ d → d = lsS A (-1) → ∃ x ∈ A, (x.s : Int) = d := fun h0 hd => by
    rcases lsS_cases A (-1) with ⟨_, e0⟩ | ⟨A', y, e1, e0⟩
    · omega
    · exact ⟨y, by rw [e1]; simp, by omega⟩
  have hC : ∀ {d : Int}, 0 ≤ d → d = hdS C (-1) → ∃ x ∈ C, (x.s : Int) = d := fun h0 hd => by
    cases C with
    | nil => rw [hdS_nil] at hd; omega
    | cons y C => exact ⟨y, by simp, hd.symm⟩
  refine ⟨h.ok.gone hl, ?_, ?_, ?_, ?_⟩
  · rw [List.length_set, linkL_len, h.len]; simp [St.gone]
  · rw [linkE_len, h.elen]; simp [St.gone]
  · intro q' l' hl'
    rw [linkE_get]
    rcases get_set hl' with ⟨rfl, rfl, _⟩ | ⟨m1, hl''⟩
    · obtain ⟨a, b⟩ := h.seg _ _ hl
      rw [a]
      obtain ⟨bA, -, bC⟩ := Seg.append.1 b
      refine ⟨?_, Seg.append.2 ⟨Seg.rex (hdS C (-1)) bA n2 (fun x hx => ?_), Seg.rep bC n3 (fun x hx => ?_) (fun _ => trivial)⟩⟩
      · simp only [Option.map_some]
        rw [if_pos (trivial : True), hdS_app, hdS_app, lsS_app, lsS_app]
        congr 2
        · cases A with
          | nil => rfl
          | cons y A =>
            rw [if_neg]; rfl
            intro c
            obtain ⟨z, hz, ez⟩ := lsS_mem (l := y :: A) (d := -1) (by simp)
            omega
        · cases C with
          | nil => rfl
          | cons y C => rw [if_neg (show ¬ hdS (y :: C) (-1) = -1 by rw [hdS_cons]; omega)]; rfl
      · rw [hget, if_neg (n4 x hx)]
        have : ¬ (x.s : Int) = hdS C (-1) := fun c => by
          obtain ⟨y, hy, ey⟩ := hC (by omega) c
          exact n6 x hx y hy (by omega)
        cases L[x.s]? with
        | none => rfl
        | some r => simp only [Option.map_some]; rw [if_neg this]
      · rw [hget, if_neg (n5 x hx)]
        have : ¬ (x.s : Int) = lsS A (-1) := fun c => by
          obtain ⟨y, hy, ey⟩ := hA (by omega) c
          exact n6 y hy x hx (by omega)
        cases L[x.s]? with
        | none => rfl
        | some r => simp only [Option.map_some]; rw [if_neg this]
    · obtain ⟨a, b⟩ := h.seg _ _ hl''
      rw [a]
      simp only [Option.map_some]
      rw [if_neg m1]
      refine ⟨rfl, b.frame (fun x hx => ?_)⟩
      have far := h.ok.far _ _ _ _ hl'' hl m1 x hx
      rw [hget, if_neg (far e (by simp))]
      refine opt_map_id (fun r hr => ?_)
      have nA : ¬ (x.s : Int) = lsS A (-1) := fun c => by obtain ⟨y, hy, ey⟩ := hA (by omega) c; exact far y (by simp [hy]) (by omega)
      have nC : ¬ (x.s : Int) = hdS C (-1) := fun c => by obtain ⟨y, hy, ey⟩ := hC (by omega) c; exact far y (by simp [hy]) (by omega)
      rw [if_neg nA, if_neg nC]
  · intro s hs
    have hs' : (st.U.set e.s false)[s]? = some false := hs
    rw [set_get] at hs'
    by_cases hse : e.s = s
    · subst hse; rw [hget, if_pos rfl]
    · rw [if_neg hse] at hs'
      rw [hget, if_neg (fun c => hse c.symm), h.free s hs']
      simp only [Option.map_some]
      have nA : ¬ (s : Int) = lsS A (-1) := fun c => by
        obtain ⟨y, hy, ey⟩ := hA (by omega) c
        exact used_ne h.ok hs' hl (x := y) (by simp [hy]) (by omega)
      have nC : ¬ (s : Int) = hdS C (-1) := fun c => by
        obtain ⟨y, hy, ey⟩ := hC (by omega) c
        exact used_ne h.ok hs' hl (x := y) (by simp [hy]) (by omega)
      rw [if_neg nA, if_neg nC]

/-! An order's numbers are turned. -/
def St.turned (st : St) (q : Nat) (l : List En) : St := ⟨st.U, st.Q.set q l⟩
theorem hdS_mid (A C : List En) (e e' : En) (he : e'.s = e.s) (d : Int) : hdS (A ++ e' :: C) d = hdS (A ++ e :: C) d := by
  cases A with
  | nil => show (e'.s : Int) = (e.s : Int); rw [he]
  | cons => rfl
theorem lsS_mid (A C : List En) (e e' : En) (he : e'.s = e.s) (d : Int) : lsS (A ++ e' :: C) d = lsS (A ++ e :: C) d := by
  rw [lsS_app, lsS_app]; show lsS C (e'.s : Int) = lsS C (e.s : Int); rw [he]
theorem map_mid (A C : List En) (e e' : En) (he : e'.s = e.s) : (A ++ e' :: C).map En.s = (A ++ e :: C).map En.s := by simp [he]
theorem mem_mid {A C : List En} {e e' : En} (he : e'.s = e.s) {x : En} (hx : x ∈ A ++ e' :: C) : ∃ y ∈ A ++ e :: C, y.s = x.s := by
  have : x.s ∈ (A ++ e' :: C).map En.s := List.mem_map.2 ⟨x, hx, rfl⟩
  rw [map_mid A C e e' he] at this
  obtain ⟨y, hy, ey⟩ := List.mem_map.1 this
  exact ⟨y, hy, ey⟩
theorem St.Ok.turned {st : St} (h : st.Ok) {q : Nat} {A C : List En} {e e' : En} (hl : st.Q[q]? = some (A ++ e :: C)) (he : e'.s = e.s) (hi : e'.i = e.i) (h1 : 1 ≤ e'.n) (h2 : e'.n ≤ 1000000) : (st.turned q (A ++ e' :: C)).Ok := by
  have hql : q < st.Q.length := (List.getElem?_eq_some_iff.1 hl).1
  refine ⟨fun q' l' hl' => ?_, fun q1 q2 l1 l2 a b hq x hx y hy => ?_, fun s => ?_, fun q' l' x hl' hx => ?_, ?_⟩
  · rcases get_set hl' with ⟨rfl, rfl, _⟩ | ⟨_, hl''⟩
    · rw [map_mid A C e e' he]; exact h.nd _ _ hl
    · exact h.nd _ _ hl''
  · rcases get_set a with ⟨rfl, rfl, _⟩ | ⟨m1, a'⟩
    · rcases get_set b with ⟨rfl, rfl, _⟩ | ⟨m2, b'⟩
      · exact absurd rfl hq
      · obtain ⟨z, hz, ez⟩ := mem_mid he hx
        rw [← ez]; exact h.far _ _ _ _ hl b' hq z hz y hy
    · rcases get_set b with ⟨rfl, rfl, _⟩ | ⟨m2, b'⟩
      · obtain ⟨z, hz, ez⟩ := mem_mid he hy
        rw [← ez]; exact h.far _ _ _ _ a' hl hq x hx z hz
      · exact h.far _ _ _ _ a' b' hq x hx y hy
  · refine (h.use s).trans ⟨?_, ?_⟩
    · rintro ⟨q', l', x, a, b, c⟩
      by_cases hq : q = q'
      · subst hq
        have : A ++ e :: C = l' := by rw [hl] at a; injection a
        subst this
        obtain ⟨z, hz, ez⟩ := mem_mid he.symm b
        exact ⟨q, A ++ e' :: C, z, by show (st.Q.set q (A ++ e' :: C))[q]? = _; rw [set_get, if_pos rfl, if_pos hql], hz, ez.trans c⟩
      · exact ⟨q', l', x, by show (st.Q.set q (A ++ e' :: C))[q']? = _; rw [set_get, if_neg hq]; exact a, b, c⟩
    · rintro ⟨q', l', x, a, b, c⟩
      rcases get_set a with ⟨rfl, rfl, _⟩ | ⟨_, a'⟩
      · obtain ⟨z, hz, ez⟩ := mem_mid he b
        exact ⟨_, _, z, hl, hz, ez.trans c⟩
      · exact ⟨q', l', x, a', b, c⟩
  · rcases get_set hl' with ⟨rfl, rfl, _⟩ | ⟨_, hl''⟩
    · rcases List.mem_append.1 hx with c | c
      · exact h.fit _ _ _ hl (List.mem_append.2 (.inl c))
      · rcases List.mem_cons.1 c with rfl | c
        · exact ⟨h1, h2, by rw [hi]; exact (h.fit _ _ e hl (by simp)).2.2⟩
        · exact h.fit _ _ _ hl (List.mem_append.2 (.inr (List.mem_cons_of_mem _ c)))
    · exact h.fit _ _ _ hl'' hx
  · have a := sum_set List.length st.Q q _ (A ++ e' :: C) hl
    have c := h.sum
    show ((st.Q.set q (A ++ e' :: C)).map List.length).sum = st.U.count true
    simp only [List.length_append, List.length_cons] at a
    omega
theorem Inv.turned {L L' : List Pl} {E : List (Int × Int)} {st : St} (h : Inv L E st) {q : Nat} {A C : List En} {e e' : En} (hl : st.Q[q]? = some (A ++ e :: C)) (he : e'.s = e.s) (hi : e'.i = e.i) (h1 : 1 ≤ e'.n) (h2 : e'.n ≤ 1000000)
    (hlen : L'.length = L.length) (hget : ∀ j, L'[j]? = if j = e.s then (L[j]?).map (fun r => { r with n := e'.n, t := e'.t }) else L[j]?) : Inv L' E (st.turned q (A ++ e' :: C)) := by
  have hu : st.U[e.s]? = some true := (h.ok.use e.s).2 ⟨q, _, e, hl, by simp, rfl⟩
  obtain ⟨n1, n2, n3, n4, n5, n6⟩ := nodup_mid (h.ok.nd _ _ hl)
  refine ⟨h.ok.turned hl he hi h1 h2, hlen.trans h.len, by rw [h.elen]; simp [St.turned], ?_, ?_⟩
  · intro q' l' hl'
    rcases get_set hl' with ⟨rfl, rfl, _⟩ | ⟨m1, hl''⟩
    · obtain ⟨a, b⟩ := h.seg _ _ hl
      obtain ⟨bA, b0, bC⟩ := Seg.append.1 b
      refine ⟨by rw [a, hdS_mid A C e e' he, lsS_mid A C e e' he], Seg.append.2 ⟨?_, ?_, ?_⟩⟩
      · rw [show hdS (e' :: C) (-1) = hdS (e :: C) (-1) by show (e'.s : Int) = (e.s : Int); rw [he]]
        exact bA.frame (fun x hx => by rw [hget, if_neg (n4 x hx)])
      · rw [he, hget, if_pos rfl, b0]; simp only [Option.map_some]; rw [hi]
      · rw [he]; exact bC.frame (fun x hx => by rw [hget, if_neg (n5 x hx)])
    · obtain ⟨a, b⟩ := h.seg _ _ hl''
      exact ⟨a, b.frame (fun x hx => by rw [hget, if_neg (h.ok.far _ _ _ _ hl'' hl m1 x hx e (by simp))])⟩
  · intro s hs
    rw [hget, if_neg]
    · exact h.free s hs
    · intro c; subst c
      have hs' : st.U[e.s]? = some false := hs
      rw [hu] at hs'; cases hs'
end Go.Proofs.Ytlknlicokacoiaa
