/-
  Queues of orders in an arena: the document's own picture (queues as lists, slots used or free), the places as the program links them, and what ties both. Plain lists: nothing of the program.
-/
import Derived.Lib.Hide
import Derived.Test.YtlknlicokacoiaaProg
namespace Go.Proofs.Ytlknlicokacoiaa
open Go.RowKit
set_option linter.unusedVariables false
set_option linter.unusedSimpArgs false

def I64 (x : Int) : Prop := -9223372036854775808 ≤ x ∧ x ≤ 9223372036854775807
/-- An order in a slot. -/
structure En where
  s : Nat
  i : Int
  n : Int
  t : Bool
/-- A place: the order, its queue, its neighbours. -/
structure Pl where
  s : Int
  i : Int
  n : Int
  t : Bool
  k : Int
  p : Int
  x : Int
def zeroP : Pl := ⟨0, 0, 0, false, 0, 0, 0⟩
/-- The slot of the first order, or d. -/
def hdS (l : List En) (d : Int) : Int := match l with | [] => d | e :: _ => (e.s : Int)
/-- The slot of the last order, or d. -/
def lsS : List En → Int → Int
  | [], d => d
  | e :: l, d => lsS l (e.s : Int)
theorem hdS_nil (d : Int) : hdS [] d = d := rfl
theorem hdS_cons (e : En) (l : List En) (d : Int) : hdS (e :: l) d = (e.s : Int) := rfl
theorem hdS_app (A C : List En) (d : Int) : hdS (A ++ C) d = hdS A (hdS C d) := by cases A <;> rfl
theorem lsS_app (A C : List En) : ∀ d, lsS (A ++ C) d = lsS C (lsS A d) := by
  induction A with
  | nil => intro d; rfl
  | cons e A ih => intro d; exact ih _
theorem lsS_cases (l : List En) (d : Int) : (l = [] ∧ lsS l d = d) ∨ ∃ A e, l = A ++ [e] ∧ lsS l d = (e.s : Int) := by
  rcases List.eq_nil_or_concat l with h | ⟨A, e, h⟩
  · exact .inl ⟨h, by rw [h]; rfl⟩
  · refine .inr ⟨A, e, by simpa using h, ?_⟩
    rw [show l = A ++ [e] by simpa using h, lsS_app]; rfl
/-- These orders stand linked in the places L: of queue q, behind slot p, ahead of slot z. -/
def Seg (L : List Pl) (q : Int) : Int → List En → Int → Prop
  | _, [], _ => True
  | p, e :: l, z => L[e.s]? = some ⟨(e.s : Int), e.i, e.n, e.t, q, p, hdS l z⟩ ∧ Seg L q (e.s : Int) l z
theorem Seg.append {L : List Pl} {q : Int} : ∀ {p : Int} {A C : List En} {z : Int}, Seg L q p (A ++ C) z ↔ Seg L q p A (hdS C z) ∧ Seg L q (lsS A p) C z := by
  intro p A
  induction A generalizing p with
  | nil => intro C z; exact ⟨fun h => ⟨trivial, h⟩, fun h => h.2⟩
  | cons e A ih =>
    intro C z
    constructor
    · intro h
      obtain ⟨h1, h2⟩ := h
      have h3 := (ih (p := (e.s : Int))).1 h2
      exact ⟨⟨by rw [← hdS_app]; exact h1, h3.1⟩, h3.2⟩
    · rintro ⟨⟨h1, h2⟩, h3⟩
      exact ⟨by rw [show A.append C = A ++ C from rfl, hdS_app]; exact h1, (ih (p := (e.s : Int))).2 ⟨h2, h3⟩⟩
theorem Seg.frame {L L' : List Pl} {q : Int} : ∀ {p : Int} {l : List En} {z : Int}, Seg L q p l z → (∀ e ∈ l, L'[e.s]? = L[e.s]?) → Seg L' q p l z := by
  intro p l
  induction l generalizing p with
  | nil => intro z _ _; trivial
  | cons e l ih =>
    intro z h hf
    exact ⟨(hf e (by simp)).trans h.1, ih h.2 (fun x hx => hf x (by simp [hx]))⟩
/-- Each order's place, with its neighbours. -/
theorem Seg.at {L : List Pl} {q p z : Int} {A : List En} {e : En} {C : List En} (h : Seg L q p (A ++ e :: C) z) : L[e.s]? = some ⟨(e.s : Int), e.i, e.n, e.t, q, lsS A p, hdS C z⟩ := (Seg.append.1 h).2.1
theorem Seg.mem {L : List Pl} {q p z : Int} {l : List En} (h : Seg L q p l z) {e : En} (he : e ∈ l) : ∃ p' z', L[e.s]? = some ⟨(e.s : Int), e.i, e.n, e.t, q, p', z'⟩ := by
  obtain ⟨A, C, rfl⟩ := List.append_of_mem he
  exact ⟨_, _, h.at⟩

/-- The document's arena: of each slot whether it is used; queues. -/
structure St where
  U : List Bool
  Q : List (List En)
/-- The state is one that calls lead to. -/
structure St.Ok (st : St) : Prop where
  nd : ∀ (q : Nat) (l : List En), st.Q[q]? = some l → (l.map En.s).Nodup
  far : ∀ (q q' : Nat) (l l' : List En), st.Q[q]? = some l → st.Q[q']? = some l' → q ≠ q' → ∀ e ∈ l, ∀ e' ∈ l', e.s ≠ e'.s
  use : ∀ s : Nat, st.U[s]? = some true ↔ ∃ (q : Nat) (l : List En) (e : En), st.Q[q]? = some l ∧ e ∈ l ∧ e.s = s
  fit : ∀ (q : Nat) (l : List En) (e : En), st.Q[q]? = some l → e ∈ l → 1 ≤ e.n ∧ e.n ≤ 1000000 ∧ I64 e.i
  sum : (st.Q.map List.length).sum = st.U.count true
theorem St.Ok.lt {st : St} (h : st.Ok) {q : Nat} {l : List En} {e : En} (hl : st.Q[q]? = some l) (he : e ∈ l) : e.s < st.U.length := by
  have := (h.use e.s).2 ⟨q, l, e, hl, he, rfl⟩
  exact (List.getElem?_eq_some_iff.1 this).1
/-- The program's places and ends are the document's arena. -/
structure Inv (L : List Pl) (E : List (Int × Int)) (st : St) : Prop where
  ok : st.Ok
  len : L.length = st.U.length
  elen : E.length = st.Q.length
  seg : ∀ (q : Nat) (l : List En), st.Q[q]? = some l → E[q]? = some (hdS l (-1), lsS l (-1)) ∧ Seg L (q : Int) (-1) l (-1)
  free : ∀ s : Nat, st.U[s]? = some false → L[s]? = some zeroP

theorem getElem?_none_or {α : Type} (l : List α) (i : Nat) : l[i]? = none ∨ ∃ x, l[i]? = some x := by
  cases h : l[i]? with
  | none => exact .inl rfl
  | some x => exact .inr ⟨x, rfl⟩
theorem sum_set (f : List En → Nat) : ∀ (Q : List (List En)) (q : Nat) (l l' : List En), Q[q]? = some l → ((Q.set q l').map f).sum + f l = (Q.map f).sum + f l' := by
  intro Q
  induction Q with
  | nil => intro q l l' h; simp at h
  | cons x Q ih =>
    intro q l l' h
    cases q with
    | zero => simp at h; subst h; simp; omega
    | succ q =>
      have := ih q l l' (by simpa using h)
      simp only [List.set_cons_succ, List.map_cons, List.sum_cons]; omega
theorem count_set : ∀ (U : List Bool) (s : Nat), U[s]? = some false → (U.set s true).count true = U.count true + 1 := by
  intro U
  induction U with
  | nil => intro s h; simp at h
  | cons x U ih =>
    intro s h
    cases s with
    | zero => simp at h; subst h; simp
    | succ s =>
      have := ih s (by simpa using h)
      simp only [List.set_cons_succ, List.count_cons]; omega
theorem count_unset : ∀ (U : List Bool) (s : Nat), U[s]? = some true → (U.set s false).count true + 1 = U.count true := by
  intro U
  induction U with
  | nil => intro s h; simp at h
  | cons x U ih =>
    intro s h
    cases s with
    | zero => simp at h; subst h; simp
    | succ s =>
      have := ih s (by simpa using h)
      simp only [List.set_cons_succ, List.count_cons]; omega

/-! Opening a queue. -/
def St.opened (st : St) : St := ⟨st.U, st.Q ++ [[]]⟩
theorem get_snoc {st : St} {q : Nat} {l : List En} (h : (st.Q ++ [[]])[q]? = some l) : st.Q[q]? = some l ∨ l = [] := by
  rcases Nat.lt_trichotomy q st.Q.length with h1 | h1 | h1
  · rw [List.getElem?_append_left h1] at h; exact .inl h
  · subst h1; simp at h; exact .inr h
  · rw [List.getElem?_append_right (by omega), List.getElem?_eq_none (by simp; omega)] at h; cases h
theorem snoc_get {st : St} {q : Nat} {l : List En} (h : st.Q[q]? = some l) : (st.Q ++ [[]])[q]? = some l := by
  rw [List.getElem?_append_left (List.getElem?_eq_some_iff.1 h).1]; exact h
theorem St.Ok.opened {st : St} (h : st.Ok) : st.opened.Ok := by
  refine ⟨fun q l hl => ?_, fun q q' l l' hl hl' hq e he e' he' => ?_, fun s => ?_, fun q l e hl he => ?_, ?_⟩
  · rcases get_snoc hl with h1 | rfl
    · exact h.nd q l h1
    · exact List.nodup_nil
  · rcases get_snoc hl with h1 | rfl
    · rcases get_snoc hl' with h2 | rfl
      · exact h.far q q' l l' h1 h2 hq e he e' he'
      · cases he'
    · cases he
  · refine (h.use s).trans ⟨fun ⟨q, l, e, a, b, c⟩ => ⟨q, l, e, snoc_get a, b, c⟩, fun ⟨q, l, e, a, b, c⟩ => ?_⟩
    rcases get_snoc a with h1 | rfl
    · exact ⟨q, l, e, h1, b, c⟩
    · cases b
  · rcases get_snoc hl with h1 | rfl
    · exact h.fit q l e h1 he
    · cases he
  · have := h.sum
    simpa [St.opened] using this
theorem Inv.opened {L : List Pl} {E : List (Int × Int)} {st : St} (h : Inv L E st) : Inv L (E ++ [(-1, -1)]) st.opened := by
  refine ⟨h.ok.opened, h.len, by simp [St.opened, h.elen], fun q l hl => ?_, h.free⟩
  rcases Nat.lt_or_ge q st.Q.length with h1 | h1
  · have hl' : st.Q[q]? = some l := by
      have := hl; simp only [St.opened] at this
      rwa [List.getElem?_append_left h1] at this
    obtain ⟨a, b⟩ := h.seg q l hl'
    exact ⟨by rw [List.getElem?_append_left (by rw [h.elen]; exact h1)]; exact a, b⟩
  · have hq : q = st.Q.length := by
      have := (List.getElem?_eq_some_iff.1 hl).1
      simp [St.opened] at this; omega
    subst hq
    have hl' : l = [] := by simpa [St.opened] using hl.symm
    subst hl'
    refine ⟨?_, trivial⟩
    rw [show st.Q.length = E.length from h.elen.symm]
    simp [hdS, lsS]

/-! Pushing an order. -/
def St.pushed (st : St) (q s : Nat) (l : List En) (e : En) : St := ⟨st.U.set s true, st.Q.set q (l ++ [e])⟩
theorem set_get {α : Type} {l : List α} {i j : Nat} {x : α} : (l.set i x)[j]? = if i = j then (if i < l.length then some x else none) else l[j]? := by
  rw [List.getElem?_set]
theorem get_set {Q : List (List En)} {q q' : Nat} {l l' : List En} (h : (Q.set q l')[q']? = some l) : (q' = q ∧ l = l' ∧ q < Q.length) ∨ (q' ≠ q ∧ Q[q']? = some l) := by
  rw [set_get] at h
  split at h
  · rename_i e; subst e
    split at h
    · injection h with h; exact .inl ⟨rfl, h.symm, by assumption⟩
    · cases h
  · rename_i e; exact .inr ⟨fun e2 => e e2.symm, h⟩
theorem St.Ok.pushed {st : St} (h : st.Ok) {q : Nat} {l : List En} {e : En} (hl : st.Q[q]? = some l) (hf : st.U[e.s]? = some false) (h1 : 1 ≤ e.n) (h2 : e.n ≤ 1000000) (h3 : I64 e.i) : (st.pushed q e.s l e).Ok := by
  have hlt : e.s < st.U.length := (List.getElem?_eq_some_iff.1 hf).1
  have hno : ∀ (q' : Nat) (l' : List En) (x : En), st.Q[q']? = some l' → x ∈ l' → x.s ≠ e.s := fun q' l' x a b c => by
    have := (h.use e.s).2 ⟨q', l', x, a, b, c⟩
    rw [hf] at this; cases this
  have hql : q < st.Q.length := (List.getElem?_eq_some_iff.1 hl).1
  refine ⟨fun q' l' hl' => ?_, fun q1 q2 l1 l2 a b hq x hx y hy => ?_, fun s => ?_, fun q' l' x hl' hx => ?_, ?_⟩
  · rcases get_set hl' with ⟨rfl, rfl, _⟩ | ⟨_, hl'⟩
    · rw [List.map_append, List.nodup_append]
      refine ⟨h.nd _ _ hl, by simp, ?_⟩
      intro a ha b hb
      simp only [List.map_cons, List.map_nil, List.mem_singleton] at hb
      obtain ⟨x, hx, rfl⟩ := List.mem_map.1 ha
      subst hb
      exact hno _ _ _ hl hx
    · exact h.nd _ _ hl'
  · rcases get_set a with ⟨rfl, rfl, _⟩ | ⟨n1, a'⟩
    · rcases get_set b with ⟨rfl, rfl, _⟩ | ⟨n2, b'⟩
      · exact absurd rfl hq
      · rcases List.mem_append.1 hx with hx | hx
        · exact h.far _ _ _ _ hl b' hq x hx y hy
        · rw [List.mem_singleton.1 hx]; exact fun c => hno _ _ _ b' hy c.symm
    · rcases get_set b with ⟨rfl, rfl, _⟩ | ⟨n2, b'⟩
      · rcases List.mem_append.1 hy with hy | hy
        · exact h.far _ _ _ _ a' hl hq x hx y hy
        · rw [List.mem_singleton.1 hy]; exact hno _ _ _ a' hx
      · exact h.far _ _ _ _ a' b' hq x hx y hy
  · show (st.U.set e.s true)[s]? = some true ↔ _
    rw [set_get]
    by_cases hs : e.s = s
    · rw [if_pos hs, if_pos hlt]
      refine ⟨fun _ => ⟨q, l ++ [e], e, ?_, by simp, hs⟩, fun _ => rfl⟩
      show (st.Q.set q (l ++ [e]))[q]? = _
      rw [set_get, if_pos rfl, if_pos hql]
    · rw [if_neg hs, h.use s]
      constructor
      · rintro ⟨q', l', x, a, b, c⟩
        by_cases hq : q = q'
        · subst hq
          have : l = l' := by rw [hl] at a; injection a
          subst this
          exact ⟨q, l ++ [e], x, by show (st.Q.set q (l ++ [e]))[q]? = _; rw [set_get, if_pos rfl, if_pos hql], by simp [b], c⟩
        · exact ⟨q', l', x, by show (st.Q.set q (l ++ [e]))[q']? = _; rw [set_get, if_neg hq]; exact a, b, c⟩
      · rintro ⟨q', l', x, a, b, c⟩
        rcases get_set a with ⟨rfl, rfl, _⟩ | ⟨_, a⟩
        · rcases List.mem_append.1 b with b | b
          · exact ⟨_, _, x, hl, b, c⟩
          · rw [List.mem_singleton.1 b] at c; exact absurd c hs
        · exact ⟨q', l', x, a, b, c⟩
  · rcases get_set hl' with ⟨rfl, rfl, _⟩ | ⟨_, hl'⟩
    · rcases List.mem_append.1 hx with hx | hx
      · exact h.fit _ _ _ hl hx
      · rw [List.mem_singleton.1 hx]; exact ⟨h1, h2, h3⟩
    · exact h.fit _ _ _ hl' hx
  · have a := sum_set List.length st.Q q l (l ++ [e]) hl
    have b := count_set st.U e.s hf
    have c := h.sum
    show ((st.Q.set q (l ++ [e])).map List.length).sum = (st.U.set e.s true).count true
    rw [List.length_append, List.length_singleton] at a
    omega

/-! Linking, as the program does it. -/
def linkL (L : List Pl) (p x : Int) : List Pl :=
  if x = -1 then (if p = -1 then L else L.modify p.toNat (fun r => { r with x := x }))
  else (if p = -1 then L else L.modify p.toNat (fun r => { r with x := x })).modify x.toNat (fun r => { r with p := p })
def linkE (E : List (Int × Int)) (q : Nat) (p x : Int) : List (Int × Int) :=
  if x = -1 then (if p = -1 then E.modify q (fun e => (x, e.2)) else E).modify q (fun e => (e.1, p))
  else (if p = -1 then E.modify q (fun e => (x, e.2)) else E)
theorem linkL_len (L : List Pl) (p x : Int) : (linkL L p x).length = L.length := by
  unfold linkL; split <;> split <;> simp
theorem linkE_len (E : List (Int × Int)) (q : Nat) (p x : Int) : (linkE E q p x).length = E.length := by
  unfold linkE; split <;> split <;> simp
theorem linkL_get (L : List Pl) (p x : Int) (hp : -1 ≤ p) (hx : -1 ≤ x) (j : Nat) : (linkL L p x)[j]? = (L[j]?).map (fun r => { r with x := if (j : Int) = p then x else r.x, p := if (j : Int) = x then p else r.p }) := by
  unfold linkL
  cases hj : L[j]? with
  | none =>
    split <;> split <;> simp [List.getElem?_modify, hj]
  | some r =>
    by_cases h1 : p = -1
    · by_cases h2 : x = -1
      · rw [if_pos h2, if_pos h1, hj]
        simp only [Option.map_some]
        rw [if_neg (by omega), if_neg (by omega)]
      · rw [if_neg h2, if_pos h1, List.getElem?_modify, hj]
        simp only [Option.map_some, Option.map_eq_map]
        rw [if_neg (show ¬ (j : Int) = p by omega)]
        by_cases h3 : (j : Int) = x
        · rw [if_pos (show x.toNat = j by omega), if_pos h3]
        · rw [if_neg (show ¬ x.toNat = j by omega), if_neg h3]
    · by_cases h2 : x = -1
      · rw [if_pos h2, if_neg h1, List.getElem?_modify, hj]
        simp only [Option.map_some, Option.map_eq_map]
        rw [if_neg (show ¬ (j : Int) = x by omega)]
        by_cases h3 : (j : Int) = p
        · rw [if_pos (show p.toNat = j by omega), if_pos h3]
        · rw [if_neg (show ¬ p.toNat = j by omega), if_neg h3]
      · rw [if_neg h2, if_neg h1, List.getElem?_modify, List.getElem?_modify, hj]
        simp only [Option.map_some, Option.map_eq_map]
        by_cases h3 : (j : Int) = p <;> by_cases h4 : (j : Int) = x
        · rw [if_pos (show p.toNat = j by omega), if_pos (show x.toNat = j by omega), if_pos h3, if_pos h4]
        · rw [if_pos (show p.toNat = j by omega), if_neg (show ¬ x.toNat = j by omega), if_pos h3, if_neg h4]
        · rw [if_neg (show ¬ p.toNat = j by omega), if_pos (show x.toNat = j by omega), if_neg h3, if_pos h4]
        · rw [if_neg (show ¬ p.toNat = j by omega), if_neg (show ¬ x.toNat = j by omega), if_neg h3, if_neg h4]
theorem linkE_get (E : List (Int × Int)) (q : Nat) (p x : Int) (j : Nat) : (linkE E q p x)[j]? = (E[j]?).map (fun e => if j = q then (if p = -1 then x else e.1, if x = -1 then p else e.2) else e) := by
  unfold linkE
  cases hj : E[j]? with
  | none => split <;> split <;> simp [List.getElem?_modify, hj]
  | some r =>
    by_cases h3 : q = j
    · subst h3
      by_cases h1 : p = -1 <;> by_cases h2 : x = -1 <;> simp [h1, h2, List.getElem?_modify, hj]
    · have h4 : ¬ j = q := fun e => h3 e.symm
      by_cases h1 : p = -1 <;> by_cases h2 : x = -1 <;> simp [h1, h2, h3, h4, List.getElem?_modify, hj]
theorem lsS_mem : ∀ {l : List En} {d : Int}, l ≠ [] → ∃ e ∈ l, lsS l d = (e.s : Int) := by
  intro l d h
  rcases lsS_cases l d with ⟨e, _⟩ | ⟨A, e, rfl, h2⟩
  · exact absurd e h
  · exact ⟨e, by simp, h2⟩
theorem hdS_ge (l : List En) : -1 ≤ hdS l (-1) := by
  cases l with
  | nil => exact Int.le_refl _
  | cons e l => show -1 ≤ (e.s : Int); omega
theorem lsS_ge (l : List En) : -1 ≤ lsS l (-1) := by
  rcases lsS_cases l (-1) with ⟨_, e⟩ | ⟨_, e, _, h⟩ <;> omega
/-- The last one's next slot is turned. -/
theorem Seg.rex {L L' : List Pl} {q : Int} : ∀ {p : Int} {l : List En} {z : Int} (z' : Int), Seg L q p l z → (l.map En.s).Nodup → (∀ e ∈ l, L'[e.s]? = (L[e.s]?).map (fun r => { r with x := if (e.s : Int) = lsS l p then z' else r.x })) → Seg L' q p l z' := by
  intro p l
  induction l generalizing p with
  | nil => intro z z' _ _ _; trivial
  | cons e l ih =>
    intro z z' h hn hf
    rw [List.map_cons, List.nodup_cons] at hn
    refine ⟨?_, ih (p := (e.s : Int)) z' h.2 hn.2 (fun x hx => hf x (by simp [hx]))⟩
    rw [hf e (by simp), h.1]
    simp only [Option.map_some]
    cases l with
    | nil => rw [if_pos (show (e.s : Int) = lsS [e] p from rfl)]; rfl
    | cons e2 l =>
      have hne : ¬ (e.s : Int) = lsS (e :: e2 :: l) p := fun e0 => by
        obtain ⟨y, hy, ey⟩ := lsS_mem (l := e2 :: l) (d := (e.s : Int)) (by simp)
        rw [show lsS (e :: e2 :: l) p = lsS (e2 :: l) (e.s : Int) from rfl, ey] at e0
        exact hn.1 (List.mem_map.2 ⟨y, hy, by omega⟩)
      rw [if_neg hne]; rfl
/-- The first one's slot before is turned. -/
theorem Seg.rep {L L' : List Pl} {q p p' z : Int} {l : List En} (h : Seg L q p l z) (hn : (l.map En.s).Nodup) (hf : ∀ e ∈ l, L'[e.s]? = (L[e.s]?).map (fun r => { r with p := if (e.s : Int) = hdS l z then p' else r.p })) (hz : l ≠ [] → True) : Seg L' q p' l z := by
  cases l with
  | nil => trivial
  | cons e l =>
    rw [List.map_cons, List.nodup_cons] at hn
    refine ⟨?_, h.2.frame (fun x hx => ?_)⟩
    · rw [hf e (by simp), h.1]; simp only [Option.map_some]; rw [if_pos (show (e.s : Int) = hdS (e :: l) z from rfl)]
    · rw [hf x (by simp [hx])]
      have : ¬ (x.s : Int) = hdS (e :: l) z := fun e0 => hn.1 (List.mem_map.2 ⟨x, hx, by have : (x.s : Int) = (e.s : Int) := e0; omega⟩)
      cases L[x.s]? with
      | none => rfl
      | some r => simp only [Option.map_some]; rw [if_neg this]
end Go.Proofs.Ytlknlicokacoiaa
