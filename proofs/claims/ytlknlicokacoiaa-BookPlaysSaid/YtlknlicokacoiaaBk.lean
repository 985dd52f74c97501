/-
  The orders of one instrument: the document's own picture (one list, side by side, level by level), and what its calls make of it. Plain lists: nothing of the program.
-/
import Derived.Test.YtlknlicokacoiaaLvReads
namespace Go.Proofs.Ytlknlicokacoiaa
open Go.RowKit
set_option linter.unusedVariables false
set_option linter.unusedSimpArgs false

/-- An order of a book. -/
structure Or where
  i : Int
  s : Int
  p : Int
  n : Int
  t : Bool
/-- A level of a side. -/
structure Lv where
  p : Int
  n : Int
  c : Int
/-- On side s price a is better than b. -/
def bet (s a b : Int) : Bool := if s = 1 then decide (b < a) else decide (a < b)
theorem bet_one (a b : Int) : bet 1 a b = decide (b < a) := rfl
theorem bet_two {s : Int} (a b : Int) (h : ¬ s = 1) : bet s a b = decide (a < b) := if_neg h
theorem bet_self (s a : Int) : bet s a a = false := by unfold bet; split <;> simp
theorem bet_asym {s a b : Int} (h : bet s a b = true) : bet s b a = false := by unfold bet at *; split at h <;> simp_all <;> omega
theorem bet_trans {s a b c : Int} (h : bet s a b = true) (k : bet s b c = true) : bet s a c = true := by unfold bet at *; split at h <;> simp_all <;> omega
theorem bet_eq {s a b : Int} (h : bet s a b = false) (k : bet s b a = false) : a = b := by unfold bet at *; split at h <;> simp_all <;> omega
theorem bet_ne {s a b : Int} (h : bet s a b = true) : a ≠ b := fun e => by rw [e, bet_self] at h; cases h
/-- This order stands ahead of a new one of side s and price p. -/
def ahead (s p : Int) (x : Or) : Bool := decide (x.s < s) || (decide (x.s = s) && !bet s p x.p)
/-- This order keeps a new one of side s and price p from the top. -/
def bars (s p : Int) (x : Or) : Bool := decide (x.s = s) && !bet s p x.p
def clr (s : Int) (x : Or) : Or := if x.s = s then { x with t := false } else x
theorem clr_s (s : Int) (x : Or) : (clr s x).s = x.s := by unfold clr; split <;> rfl
theorem clr_p (s : Int) (x : Or) : (clr s x).p = x.p := by unfold clr; split <;> rfl
theorem clr_i (s : Int) (x : Or) : (clr s x).i = x.i := by unfold clr; split <;> rfl
theorem clr_n (s : Int) (x : Or) : (clr s x).n = x.n := by unfold clr; split <;> rfl
def topB (L : List Or) (s p : Int) : Bool := !(L.any (bars s p))
def clrL (L : List Or) (s p : Int) : List Or := if topB L s p = true then L.map (clr s) else L
def insO (L : List Or) (i s p n : Int) : List Or :=
  (clrL L s p).takeWhile (ahead s p) ++ ⟨i, s, p, n, topB L s p⟩ :: (clrL L s p).dropWhile (ahead s p)
def hasI (L : List Or) (i : Int) : Bool := L.any (fun x => decide (x.i = i))
def addO (L : List Or) (i s p n : Int) : Int × List Or :=
  if ¬ (s = 1 ∨ s = 2) then (21, L) else if n < 1 ∨ 1000000 < n then (24, L) else if hasI L i = true then (25, L) else if 250 ≤ L.length then (13, L) else (0, insO L i s p n)
/-- The list, parted at the first order of this ID. -/
def cutO (i : Int) : List Or → Option (List Or × Or × List Or)
  | [] => none
  | e :: l => if e.i = i then some ([], e, l) else match cutO i l with | none => none | some (A, x, C) => some (e :: A, x, C)
def fillO (L : List Or) (i n : Int) : Int × List Or :=
  match cutO i L with
  | none => (26, L)
  | some (A, e, C) => if n < 1 ∨ e.n < n then (24, L) else if e.n - n = 0 then (0, A ++ C) else (0, A ++ { e with n := e.n - n } :: C)
def zeroO : Or := ⟨0, 0, 0, 0, false⟩
def findO (L : List Or) (i : Int) : Or × Bool := match cutO i L with | none => (zeroO, false) | some (_, e, _) => (e, true)
def ladStep (s : Int) (out : List Lv) (x : Or) : List Lv :=
  if x.s ≠ s then out else match out.getLast? with
    | none => out ++ [⟨x.p, x.n, 1⟩]
    | some y => if y.p = x.p then out.dropLast ++ [⟨y.p, y.n + x.n, y.c + 1⟩] else out ++ [⟨x.p, x.n, 1⟩]
def ladO (L : List Or) (s : Int) : List Lv := L.foldl (ladStep s) []
def zeroL : Lv := ⟨0, 0, 0⟩
def bestO (L : List Or) (s : Int) : Lv × Bool := match ladO L s with | [] => (zeroL, false) | x :: _ => (x, true)
def atO (L : List Or) (s p : Int) : List Or := L.filter (fun x => decide (x.s = s) && decide (x.p = p))
theorem cutO_some {i : Int} : ∀ {l A C : List Or} {e : Or}, cutO i l = some (A, e, C) → l = A ++ e :: C ∧ e.i = i ∧ ∀ x ∈ A, x.i ≠ i := by
  intro l
  induction l with
  | nil => intro A C e h; cases h
  | cons x l ih =>
    intro A C e h
    unfold cutO at h
    split at h
    · rename_i hx
      injection h with h; injection h with h1 h; injection h with h2 h3
      subst h1; subst h2; subst h3
      exact ⟨rfl, hx, fun y hy => by cases hy⟩
    · rename_i hx
      cases hc : cutO i l with
      | none => rw [hc] at h; cases h
      | some t =>
        obtain ⟨A', e', C'⟩ := t
        rw [hc] at h
        injection h with h; injection h with h1 h; injection h with h2 h3
        subst h1; subst h2; subst h3
        obtain ⟨a, b, d⟩ := ih hc
        exact ⟨by rw [a]; rfl, b, fun y hy => by
          rcases List.mem_cons.1 hy with rfl | hy
          · exact hx
          · exact d y hy⟩
theorem cutO_none {i : Int} : ∀ {l : List Or}, cutO i l = none → ∀ e ∈ l, e.i ≠ i := by
  intro l
  induction l with
  | nil => intro _ e he; cases he
  | cons x l ih =>
    intro h e he
    unfold cutO at h
    split at h
    · cases h
    · rename_i hx
      cases hc : cutO i l with
      | some t => obtain ⟨A', e', C'⟩ := t; rw [hc] at h; cases h
      | none =>
        rcases List.mem_cons.1 he with rfl | he
        · exact hx
        · exact ih hc e he
theorem cutO_mid {i : Int} : ∀ {A C : List Or} {e : Or}, e.i = i → (∀ x ∈ A, x.i ≠ i) → cutO i (A ++ e :: C) = some (A, e, C) := by
  intro A
  induction A with
  | nil => intro C e he _; show (if e.i = i then _ else _) = _; rw [if_pos he]
  | cons x A ih =>
    intro C e he hA
    show (if x.i = i then _ else _) = _
    rw [if_neg (hA x (by simp)), show (A.append (e :: C)) = A ++ e :: C from rfl, ih he (fun y hy => hA y (by simp [hy]))]
theorem cutO_far {i : Int} : ∀ {l : List Or}, (∀ x ∈ l, x.i ≠ i) → cutO i l = none := by
  intro l
  induction l with
  | nil => intro _; rfl
  | cons x A ih =>
    intro hA
    show (if x.i = i then _ else _) = _
    rw [if_neg (hA x (by simp)), ih (fun y hy => hA y (by simp [hy]))]
theorem hasI_no {L : List Or} {i : Int} (h : ∀ x ∈ L, x.i ≠ i) : hasI L i = false := by
  unfold hasI; rw [List.any_eq_false]; intro x hx; simpa using h x hx
theorem hasI_yes {L : List Or} {i : Int} {x : Or} (hx : x ∈ L) (h : x.i = i) : hasI L i = true := by
  unfold hasI; rw [List.any_eq_true]; exact ⟨x, hx, by simpa using h⟩
/-- A list of orders as calls make it. -/
structure LOk (L : List Or) : Prop where
  room : L.length ≤ 250
  fit : ∀ x ∈ L, (x.s = 1 ∨ x.s = 2) ∧ 1 ≤ x.n ∧ x.n ≤ 1000000 ∧ I64 x.i ∧ I64 x.p
  ids : (L.map Or.i).Nodup
  sort : L.Pairwise (fun a b => a.s < b.s ∨ (a.s = b.s ∧ bet a.s b.p a.p = false))
  flag : L.Pairwise (fun a b => a.s = b.s → b.t = false)
theorem takeWhile_parted {α : Type} {f : α → Bool} : ∀ {A C : List α}, (∀ x ∈ A, f x = true) → (∀ x ∈ C, f x = false) → (A ++ C).takeWhile f = A ∧ (A ++ C).dropWhile f = C := by
  intro A
  induction A with
  | nil =>
    intro C _ hC
    cases C with
    | nil => exact ⟨rfl, rfl⟩
    | cons y C => rw [List.nil_append, List.takeWhile_cons, List.dropWhile_cons, hC y (by simp)]; exact ⟨rfl, rfl⟩
  | cons x A ih =>
    intro C hA hC
    obtain ⟨a, b⟩ := ih (C := C) (fun y hy => hA y (by simp [hy])) hC
    rw [List.cons_append, List.takeWhile_cons, List.dropWhile_cons, hA x (by simp)]
    exact ⟨by simp [a], by simp [b]⟩
/-- What a new order makes of a list that is parted where it stands. -/
theorem insO_eq {L A C : List Or} {i s p n : Int} (e : clrL L s p = A ++ C) (hA : ∀ x ∈ A, ahead s p x = true) (hC : ∀ x ∈ C, ahead s p x = false) : insO L i s p n = A ++ ⟨i, s, p, n, topB L s p⟩ :: C := by
  unfold insO
  rw [e, (takeWhile_parted hA hC).1, (takeWhile_parted hA hC).2]

/-! The program's own: an arena of queues, rows of prices with their queues, the seats, the spare queues. -/
def lq (st : St) (q : Nat) : List En := st.Q.getD q []
theorem listO_nat (st : St) (q : Nat) : listO st (q : Int) = lq st q := by
  unfold listO lq
  split
  · rfl
  · rename_i h
    rw [List.getD_eq_getElem?_getD, List.getElem?_eq_none (by omega)]; rfl
theorem lq_some {st : St} {q : Nat} (h : q < st.Q.length) : st.Q[q]? = some (lq st q) := by
  unfold lq; rw [List.getD_eq_getElem?_getD, List.getElem?_eq_getElem h]; rfl
theorem lq_of {st : St} {q : Nat} {l : List En} (h : st.Q[q]? = some l) : lq st q = l := by
  unfold lq; rw [List.getD_eq_getElem?_getD, h]; rfl
theorem lq_lt {st : St} {q : Nat} {e : En} (h : e ∈ lq st q) : q < st.Q.length := by
  rcases Nat.lt_or_ge q st.Q.length with h1 | h1
  · exact h1
  · unfold lq at h; rw [List.getD_eq_getElem?_getD, List.getElem?_eq_none h1] at h; cases h
theorem lq_set (U : List Bool) (Q : List (List En)) (q : Nat) (l : List En) (q' : Nat) (h : q < Q.length) : lq ⟨U, Q.set q l⟩ q' = if q' = q then l else Q.getD q' [] := by
  unfold lq
  rw [List.getD_eq_getElem?_getD]
  show ((Q.set q l)[q']?).getD [] = _
  rw [set_get]
  by_cases e : q = q'
  · rw [if_pos e, if_pos h, if_pos e.symm]; rfl
  · rw [if_neg e, if_neg (fun c => e c.symm), List.getD_eq_getElem?_getD]
theorem lq_opened (st : St) (q : Nat) : lq st.opened q = lq st q := by
  unfold lq St.opened
  rw [List.getD_eq_getElem?_getD, List.getD_eq_getElem?_getD]
  show ((st.Q ++ [[]])[q]?).getD [] = _
  rcases Nat.lt_trichotomy q st.Q.length with h | h | h
  · rw [List.getElem?_append_left h]
  · subst h; simp
  · rw [List.getElem?_append_right (by omega), List.getElem?_eq_none (by simp; omega), List.getElem?_eq_none (by omega)]
theorem lq_pushed {st : St} {q : Nat} (h : q < st.Q.length) (s : Nat) (l : List En) (e : En) (q' : Nat) : lq (st.pushed q s l e) q' = if q' = q then l ++ [e] else lq st q' := lq_set _ _ _ _ _ h
theorem lq_gone {st : St} {q : Nat} (h : q < st.Q.length) (s : Nat) (l : List En) (q' : Nat) : lq (st.gone q s l) q' = if q' = q then l else lq st q' := lq_set _ _ _ _ _ h
theorem lq_turned {st : St} {q : Nat} (h : q < st.Q.length) (l : List En) (q' : Nat) : lq (st.turned q l) q' = if q' = q then l else lq st q' := lq_set _ _ _ _ _ h
def ordE (s p : Int) (e : En) : Or := ⟨e.i, s, p, e.n, e.t⟩
def rowO (st : St) (s : Int) (r : Int × Nat) : List Or := (lq st r.2).map (ordE s r.1)
def sideO (st : St) (s : Int) : List (Int × Nat) → List Or
  | [] => []
  | r :: R => rowO st s r ++ sideO st s R
theorem sideO_app (st : St) (s : Int) (X Y : List (Int × Nat)) : sideO st s (X ++ Y) = sideO st s X ++ sideO st s Y := by
  induction X with
  | nil => rfl
  | cons r X ih => rw [List.cons_append, sideO, sideO, ih, List.append_assoc]
theorem sideO_frame {st st' : St} (s : Int) {R : List (Int × Nat)} (h : ∀ r ∈ R, lq st' r.2 = lq st r.2) : sideO st' s R = sideO st s R := by
  induction R with
  | nil => rfl
  | cons r R ih => rw [sideO, sideO, rowO, rowO, h r (by simp), ih (fun x hx => h x (by simp [hx]))]
theorem mem_sideO {st : St} {s : Int} {R : List (Int × Nat)} {x : Or} : x ∈ sideO st s R ↔ ∃ r ∈ R, ∃ e ∈ lq st r.2, x = ordE s r.1 e := by
  induction R with
  | nil => simp [sideO]
  | cons r R ih =>
    rw [sideO, List.mem_append, ih]
    constructor
    · rintro (h | ⟨r', h1, h2⟩)
      · obtain ⟨e, h1, h2⟩ := List.mem_map.1 h
        exact ⟨r, by simp, e, h1, h2.symm⟩
      · exact ⟨r', by simp [h1], h2⟩
    · rintro ⟨r', h1, e, h2, h3⟩
      rcases List.mem_cons.1 h1 with rfl | h1
      · exact .inl (List.mem_map.2 ⟨e, h2, h3.symm⟩)
      · exact .inr ⟨r', h1, e, h2, h3⟩
structure Cs where
  st : St
  R : Nat → List (Int × Nat)
  T : List (Int × Int)
  S : List Nat
def Cs.abs (c : Cs) : List Or := sideO c.st 1 (c.R 1) ++ sideO c.st 2 (c.R 2)
def rowQs (c : Cs) : List Nat := ((c.R 1).map Prod.snd ++ (c.R 2).map Prod.snd) ++ c.S
/-- The program's state is one that calls lead to; queues of rows hold orders, but for those that ex names. -/
structure CInv (ex : Nat → Prop) (c : Cs) : Prop where
  ok : c.st.Ok
  room : c.st.U.length = 250
  tl : c.T.length = 250
  part : (rowQs c).Perm (List.range c.st.Q.length)
  spare : ∀ q ∈ c.S, lq c.st q = []
  full : ∀ s r, r ∈ c.R s → ex r.2 ∨ lq c.st r.2 ≠ []
  none' : ∀ s, s ≠ 1 → s ≠ 2 → c.R s = []
  seat : ∀ (s : Nat) r e, r ∈ c.R s → e ∈ lq c.st r.2 → c.T[e.s]? = some ((s : Int), r.1)
  sort : ∀ s : Nat, (c.R s).Pairwise (fun a b => bet s a.1 b.1 = true)
  price : ∀ s r, r ∈ c.R s → I64 r.1
  ids : (c.abs.map Or.i).Nodup
  flag : ∀ s : Nat, ∀ x ∈ (sideO c.st s (c.R s)).tail, x.t = false
def noEx : Nat → Prop := fun _ => False
theorem CInv.side {ex : Nat → Prop} {c : Cs} (h : CInv ex c) {s : Nat} {r : Int × Nat} (hr : r ∈ c.R s) : s = 1 ∨ s = 2 := by
  rcases Nat.decEq s 1 with h1 | h1
  · rcases Nat.decEq s 2 with h2 | h2
    · rw [h.none' s h1 h2] at hr; cases hr
    · exact .inr h2
  · exact .inl h1
theorem CInv.mono {ex ex' : Nat → Prop} {c : Cs} (h : CInv ex c) (k : ∀ q, ex q → ex' q) : CInv ex' c :=
  ⟨h.ok, h.room, h.tl, h.part, h.spare, fun s r hr => (h.full s r hr).imp (k _) id, h.none', h.seat, h.sort, h.price, h.ids, h.flag⟩
theorem CInv.whole {q : Nat} {c : Cs} (h : CInv (fun k => k = q) c) (hq : lq c.st q ≠ []) : CInv noEx c :=
  ⟨h.ok, h.room, h.tl, h.part, h.spare, fun s r hr => (h.full s r hr).elim (fun e => .inr (by rw [e]; exact hq)) .inr, h.none', h.seat, h.sort, h.price, h.ids, h.flag⟩
theorem CInv.nodup {ex : Nat → Prop} {c : Cs} (h : CInv ex c) : (rowQs c).Nodup := h.part.nodup_iff.2 List.nodup_range
theorem CInv.lt {ex : Nat → Prop} {c : Cs} (h : CInv ex c) {q : Nat} (hq : q ∈ rowQs c) : q < c.st.Q.length := List.mem_range.1 (h.part.mem_iff.1 hq)
theorem mem_rowQs {c : Cs} {s : Nat} (hs : s = 1 ∨ s = 2) {r : Int × Nat} (hr : r ∈ c.R s) : r.2 ∈ rowQs c := by
  have : r.2 ∈ (c.R s).map Prod.snd := List.mem_map.2 ⟨r, hr, rfl⟩
  unfold rowQs
  rcases hs with rfl | rfl <;> simp only [List.mem_append] <;> simp only [this, true_or, or_true]
/-- The queue of a row is no other row's, and not spare. -/
structure Apart (c : Cs) (s q : Nat) (X Y : List (Int × Nat)) : Prop where
  x : ∀ r ∈ X, r.2 ≠ q
  y : ∀ r ∈ Y, r.2 ≠ q
  o : ∀ s', s' ≠ s → ∀ r ∈ c.R s', r.2 ≠ q
  p : q ∉ c.S
  lt : q < c.st.Q.length
theorem CInv.apart {ex : Nat → Prop} {c : Cs} (h : CInv ex c) {s q : Nat} {p : Int} {X Y : List (Int × Nat)} (hr : c.R s = X ++ (p, q) :: Y) : Apart c s q X Y := by
  have hs := h.side (r := (p, q)) (s := s) (by rw [hr]; simp)
  have hn := h.nodup
  have hq := h.lt (mem_rowQs hs (r := (p, q)) (by rw [hr]; simp))
  unfold rowQs at hn
  have mine : ((c.R s).map Prod.snd).Nodup := by
    rcases hs with rfl | rfl
    · exact (List.nodup_append.1 (List.nodup_append.1 hn).1).1
    · exact (List.nodup_append.1 (List.nodup_append.1 hn).1).2.1
  rw [hr, List.map_append, List.map_cons, List.nodup_append, List.nodup_cons] at mine
  obtain ⟨m1, ⟨m2, m3⟩, m4⟩ := mine
  have hmem : q ∈ (c.R s).map Prod.snd := List.mem_map.2 ⟨(p, q), by rw [hr]; simp, rfl⟩
  refine ⟨fun r hr' e => ?_, fun r hr' e => ?_, fun s' hs' r hr' e => ?_, fun e => ?_, hq⟩
  · exact m4 _ (List.mem_map.2 ⟨r, hr', rfl⟩) q (by simp) e
  · exact m2 (List.mem_map.2 ⟨r, hr', e⟩)
  · have hs2 := h.side hr'
    have hm2 : q ∈ (c.R s').map Prod.snd := List.mem_map.2 ⟨r, hr', e⟩
    have d := (List.nodup_append.1 (List.nodup_append.1 hn).1).2.2
    rcases hs with rfl | rfl <;> rcases hs2 with rfl | rfl
    · exact hs' rfl
    · exact d _ hmem _ hm2 rfl
    · exact d _ hm2 _ hmem rfl
    · exact hs' rfl
  · have d := (List.nodup_append.1 hn).2.2
    refine d q ?_ q e rfl
    rcases hs with rfl | rfl
    · exact List.mem_append.2 (.inl hmem)
    · exact List.mem_append.2 (.inr hmem)
/-- An order's queue is a row's. -/
theorem CInv.row {ex : Nat → Prop} {c : Cs} (h : CInv ex c) {q : Nat} {l : List En} (hl : c.st.Q[q]? = some l) (hn : l ≠ []) : ∃ (s : Nat) (X Y : List (Int × Nat)) (p : Int), (s = 1 ∨ s = 2) ∧ c.R s = X ++ (p, q) :: Y := by
  have hq : q ∈ rowQs c := h.part.mem_iff.2 (List.mem_range.2 (List.getElem?_eq_some_iff.1 hl).1)
  have of : ∀ s : Nat, (s = 1 ∨ s = 2) → q ∈ (c.R s).map Prod.snd → ∃ (s : Nat) (X Y : List (Int × Nat)) (p : Int), (s = 1 ∨ s = 2) ∧ c.R s = X ++ (p, q) :: Y := fun s hs hm => by
    obtain ⟨⟨p, q'⟩, h1, h2⟩ := List.mem_map.1 hm
    obtain rfl : q' = q := h2
    obtain ⟨X, Y, e⟩ := List.append_of_mem h1
    exact ⟨s, X, Y, p, hs, e⟩
  unfold rowQs at hq
  rcases List.mem_append.1 hq with hq | hq
  · rcases List.mem_append.1 hq with hq | hq
    · exact of 1 (.inl rfl) hq
    · exact of 2 (.inr rfl) hq
  · have := h.spare q hq
    rw [lq_of hl] at this
    exact absurd this hn
def preO (st : St) (R : Nat → List (Int × Nat)) (s : Nat) : List Or := if s = 1 then [] else sideO st 1 (R 1)
def sufO (st : St) (R : Nat → List (Int × Nat)) (s : Nat) : List Or := if s = 1 then sideO st 2 (R 2) else []
theorem abs_split (c : Cs) {s : Nat} (hs : s = 1 ∨ s = 2) : c.abs = preO c.st c.R s ++ (sideO c.st s (c.R s) ++ sufO c.st c.R s) := by
  rcases hs with rfl | rfl
  · simp [Cs.abs, preO, sufO]
  · simp [Cs.abs, preO, sufO]
theorem preO_frame {st st' : St} {R R' : Nat → List (Int × Nat)} {s : Nat} (hs : s = 1 ∨ s = 2) (hR : ∀ s', s' ≠ s → R' s' = R s') (h : ∀ s', s' ≠ s → ∀ r ∈ R s', lq st' r.2 = lq st r.2) : preO st' R' s = preO st R s ∧ sufO st' R' s = sufO st R s := by
  rcases hs with rfl | rfl
  · unfold preO sufO
    rw [if_pos rfl, if_pos rfl, if_pos rfl, if_pos rfl, hR 2 (by omega), sideO_frame 2 (h 2 (by omega))]
    exact ⟨rfl, rfl⟩
  · unfold preO sufO
    rw [if_neg (by omega), if_neg (by omega), if_neg (by omega), if_neg (by omega), hR 1 (by omega), sideO_frame 1 (h 1 (by omega))]
    exact ⟨rfl, rfl⟩
def upd (R : Nat → List (Int × Nat)) (s : Nat) (l : List (Int × Nat)) : Nat → List (Int × Nat) := fun k => if k = s then l else R k
theorem upd_at (R : Nat → List (Int × Nat)) (s : Nat) (l : List (Int × Nat)) : upd R s l s = l := if_pos rfl
theorem upd_far (R : Nat → List (Int × Nat)) {s s' : Nat} (l : List (Int × Nat)) (h : s' ≠ s) : upd R s l s' = R s' := if_neg h
end Go.Proofs.Ytlknlicokacoiaa
