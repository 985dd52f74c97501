/-
  Contracts: lowestFree, remove, of level; what a call of the document's arena answers.
-/
import Derived.Test.YtlknlicokacoiaaLvLeaf
import Derived.KernelRfl
namespace Go.Proofs.Ytlknlicokacoiaa
open Go.RowKit
set_option linter.unusedVariables false
set_option linter.unusedSimpArgs false

/-- The least slot from k on that is free, or -1. -/
def lowF : List Bool → Nat → Int
  | [], _ => -1
  | b :: U, k => if b = true then lowF U (k + 1) else (k : Int)
theorem lowF_end {U : List Bool} {k : Nat} (h : U.length ≤ k) : lowF (U.drop k) k = -1 := by rw [List.drop_of_length_le h]; rfl
theorem lowF_used {U : List Bool} {k : Nat} (h : U[k]? = some true) : lowF (U.drop k) k = lowF (U.drop (k + 1)) (k + 1) := by
  obtain ⟨h1, h2⟩ := List.getElem?_eq_some_iff.1 h
  rw [List.drop_eq_getElem_cons h1, h2]; rfl
theorem lowF_free {U : List Bool} {k : Nat} (h : U[k]? = some false) : lowF (U.drop k) k = (k : Int) := by
  obtain ⟨h1, h2⟩ := List.getElem?_eq_some_iff.1 h
  rw [List.drop_eq_getElem_cons h1, h2]; rfl
theorem lowF_cases : ∀ (U : List Bool) (k : Nat), (lowF U k = -1 ∧ ∀ b ∈ U, b = true) ∨ ∃ j, lowF U k = ((k + j : Nat) : Int) ∧ U[j]? = some false ∧ ∀ i, i < j → U[i]? = some true := by
  intro U
  induction U with
  | nil => intro k; exact .inl ⟨rfl, fun b hb => by cases hb⟩
  | cons b U ih =>
    intro k
    cases b with
    | false => exact .inr ⟨0, rfl, rfl, fun i hi => by omega⟩
    | true =>
      rcases ih (k + 1) with ⟨h1, h2⟩ | ⟨j, h1, h2, h3⟩
      · exact .inl ⟨h1, fun x hx => by
          rcases List.mem_cons.1 hx with rfl | hx
          · rfl
          · exact h2 x hx⟩
      · refine .inr ⟨j + 1, h1.trans (by congr 1; omega), h2, fun i hi => ?_⟩
        cases i with
        | zero => rfl
        | succ i => exact h3 i (by omega)
/-- A list of orders, parted at the one in this slot. -/
def cutIn (slot : Int) : List En → Option (List En × En × List En)
  | [] => none
  | e :: l => if (e.s : Int) = slot then some ([], e, l) else match cutIn slot l with | none => none | some (A, x, C) => some (e :: A, x, C)
/-- The first queue, from number k on, that has an order in this slot, parted there. -/
def findQ (slot : Int) : List (List En) → Nat → Option (Nat × List En × En × List En)
  | [], _ => none
  | l :: Q, k => match cutIn slot l with | some (A, e, C) => some (k, A, e, C) | none => findQ slot Q (k + 1)
theorem cutIn_some {slot : Int} : ∀ {l A C : List En} {e : En}, cutIn slot l = some (A, e, C) → l = A ++ e :: C ∧ (e.s : Int) = slot ∧ ∀ x ∈ A, (x.s : Int) ≠ slot := by
  intro l
  induction l with
  | nil => intro A C e h; cases h
  | cons x l ih =>
    intro A C e h
    unfold cutIn at h
    split at h
    · rename_i hx
      injection h with h; injection h with h1 h; injection h with h2 h3
      subst h1; subst h2; subst h3
      exact ⟨rfl, hx, fun y hy => by cases hy⟩
    · rename_i hx
      cases hc : cutIn slot l with
      | none => rw [hc] at h; cases h
      | some t =>
        obtain ⟨A', e', C'⟩ := t
        rw [hc] at h
        injection h with h; injection h with h1 h; injection h with h2 h3
        subst h1; subst h2; subst h3
        obtain ⟨a, b, d⟩ := ih hc
        exact ⟨by rw [a]; rfl, b, fun y hy => by
          rcases List.mem_cons.1 hy with rfl | hy
          · exact hx
          · exact d y hy⟩
theorem cutIn_none {slot : Int} : ∀ {l : List En}, cutIn slot l = none → ∀ e ∈ l, (e.s : Int) ≠ slot := by
  intro l
  induction l with
  | nil => intro _ e he; cases he
  | cons x l ih =>
    intro h e he
    unfold cutIn at h
    split at h
    · cases h
    · rename_i hx
      cases hc : cutIn slot l with
      | some t => obtain ⟨A', e', C'⟩ := t; rw [hc] at h; cases h
      | none =>
        rcases List.mem_cons.1 he with rfl | he
        · exact hx
        · exact ih hc e he
theorem findQ_some {slot : Int} : ∀ {Q : List (List En)} {k q : Nat} {A C : List En} {e : En}, findQ slot Q k = some (q, A, e, C) → ∃ j, q = k + j ∧ Q[j]? = some (A ++ e :: C) ∧ (e.s : Int) = slot := by
  intro Q
  induction Q with
  | nil => intro k q A C e h; cases h
  | cons l Q ih =>
    intro k q A C e h
    unfold findQ at h
    cases hc : cutIn slot l with
    | some t =>
      obtain ⟨A', e', C'⟩ := t
      rw [hc] at h
      injection h with h; injection h with h0 h; injection h with h1 h; injection h with h2 h3
      subst h0; subst h1; subst h2; subst h3
      obtain ⟨a, b, _⟩ := cutIn_some hc
      exact ⟨0, rfl, by rw [a]; rfl, b⟩
    | none =>
      rw [hc] at h
      obtain ⟨j, a, b, d⟩ := ih h
      exact ⟨j + 1, by omega, b, d⟩
theorem findQ_none {slot : Int} : ∀ {Q : List (List En)} {k : Nat}, findQ slot Q k = none → ∀ (j : Nat) (l : List En), Q[j]? = some l → ∀ e ∈ l, (e.s : Int) ≠ slot := by
  intro Q
  induction Q with
  | nil => intro k _ j l h; simp at h
  | cons x Q ih =>
    intro k h j l hl e he
    unfold findQ at h
    cases hc : cutIn slot x with
    | some t => obtain ⟨A', e', C'⟩ := t; rw [hc] at h; cases h
    | none =>
      rw [hc] at h
      cases j with
      | zero => simp at hl; subst hl; exact cutIn_none hc e he
      | succ j => exact ih h j l (by simpa using hl) e he
/-- What each call of the document's arena answers, and what it leaves. -/
def pushO (st : St) (q i n : Int) (t : Bool) : Int × Int × St :=
  if ¬ (0 ≤ q ∧ q < (st.Q.length : Int)) then (0, 26, st)
  else if n < 1 ∨ 1000000 < n then (0, 24, st)
  else if lowF st.U 0 = -1 then (0, 13, st)
  else (lowF st.U 0, 0, st.pushed q.toNat (lowF st.U 0).toNat (st.Q.getD q.toNat []) ⟨(lowF st.U 0).toNat, i, n, t⟩)
def takeO (st : St) (slot n : Int) : Int × St :=
  match findQ slot st.Q 0 with
  | none => (26, st)
  | some (q, A, e, C) => if n < 1 ∨ e.n < n then (24, st) else if e.n - n = 0 then (0, st.gone q e.s (A ++ C)) else (0, st.turned q (A ++ { e with n := e.n - n } :: C))
def topO (st : St) (slot : Int) (t : Bool) : Int × St :=
  match findQ slot st.Q 0 with
  | none => (26, st)
  | some (q, A, e, C) => (0, st.turned q (A ++ { e with t := t } :: C))
def zeroE : En := ⟨0, 0, 0, false⟩
def getO (st : St) (slot : Int) : En × Bool := match findQ slot st.Q 0 with | none => (zeroE, false) | some (_, _, e, _) => (e, true)
def listO (st : St) (q : Int) : List En := if 0 ≤ q ∧ q < (st.Q.length : Int) then st.Q.getD q.toNat [] else []
def sumN (l : List En) : Int := (l.map En.n).foldl (· + ·) 0
/-- What the places tell of a slot is what the queues tell. -/
theorem Inv.atSlot {L : List Pl} {E : List (Int × Int)} {st : St} (h : Inv L E st) {slot : Int} {q : Nat} {A C : List En} {e : En} (hf : findQ slot st.Q 0 = some (q, A, e, C)) :
    st.Q[q]? = some (A ++ e :: C) ∧ (e.s : Int) = slot ∧ L[e.s]? = some ⟨(e.s : Int), e.i, e.n, e.t, (q : Int), lsS A (-1), hdS C (-1)⟩ ∧ 1 ≤ e.n ∧ e.n ≤ 1000000 ∧ I64 e.i ∧ e.s < L.length ∧ q < E.length ∧ usedL L slot = true := by
  obtain ⟨j, e1, e2, e3⟩ := findQ_some hf
  obtain rfl : q = j := by omega
  obtain ⟨f1, f2, f3⟩ := h.ok.fit _ _ e e2 (by simp)
  have hL := (h.seg _ _ e2).2.at
  refine ⟨e2, e3, hL, f1, f2, f3, (List.getElem?_eq_some_iff.1 hL).1, by rw [h.elen]; exact (List.getElem?_eq_some_iff.1 e2).1, ?_⟩
  rw [← e3, usedL_at hL]
  exact decide_eq_true (by show 0 < e.n; omega)
theorem Inv.noSlot {L : List Pl} {E : List (Int × Int)} {st : St} (h : Inv L E st) {slot : Int} (hf : findQ slot st.Q 0 = none) : usedL L slot = false := by
  rcases Int.lt_or_le slot 0 with h0 | h0
  · exact usedL_neg h0
  · obtain ⟨m, rfl⟩ := Int.eq_ofNat_of_zero_le h0
    rcases Nat.lt_or_ge m L.length with h1 | h1
    · have h2 : m < st.U.length := by rw [← h.len]; exact h1
      cases hb : st.U[m]? with
      | none => rw [List.getElem?_eq_getElem h2] at hb; cases hb
      | some b =>
        cases b with
        | false => rw [usedL_at (h.free m hb)]; rfl
        | true =>
          obtain ⟨q, l, e, a, b, c⟩ := (h.ok.use m).1 hb
          exact absurd (by rw [c]) (findQ_none hf q l a e b)
    · exact usedL_far h1
theorem Inv.used {L : List Pl} {E : List (Int × Int)} {st : St} (h : Inv L E st) {m : Nat} {b : Bool} (hb : st.U[m]? = some b) : usedL L (m : Int) = b := by
  cases b with
  | false => rw [usedL_at (h.free m hb)]; rfl
  | true =>
    obtain ⟨q, l, e, a, b, c⟩ := (h.ok.use m).1 hb
    obtain ⟨p', z', hL⟩ := (h.seg _ _ a).2.mem b
    obtain ⟨f1, f2, f3⟩ := h.ok.fit _ _ e a b
    rw [← c, usedL_at hL]
    exact decide_eq_true (by show 0 < e.n; omega)
theorem slot_ls {st : St} (h : st.Ok) {q : Nat} {l A : List En} (hl : st.Q[q]? = some l) (hA : ∀ x ∈ A, x ∈ l) : Slot st.U.length (lsS A (-1)) := by
  rcases lsS_cases A (-1) with ⟨_, e0⟩ | ⟨A', y, e1, e0⟩
  · exact .inl e0
  · exact .inr ⟨y.s, h.lt hl (hA y (by rw [e1]; simp)), e0⟩
theorem slot_hd {st : St} (h : st.Ok) {q : Nat} {l C : List En} (hl : st.Q[q]? = some l) (hC : ∀ x ∈ C, x ∈ l) : Slot st.U.length (hdS C (-1)) := by
  cases C with
  | nil => exact .inl rfl
  | cons y C => exact .inr ⟨y.s, h.lt hl (hC y (by simp)), rfl⟩

/-- The arena in block c, of these blocks (all of number B or later), is the document's. -/
def AR (B c : Nat) (F : Nat → Prop) (st : St) (w : World) : Prop :=
  ∃ s q L E, F = foot c s q ∧ Ar c s q L E w ∧ Inv L E st ∧ (∀ k, F k → B ≤ k)
theorem AR.lt {B c : Nat} {F : Nat → Prop} {st : St} {w : World} (h : AR B c F st w) {k : Nat} (hk : F k) : B ≤ k ∧ k < w.heap.size := by
  obtain ⟨s, q, L, E, rfl, hA, hI, hB⟩ := h
  exact ⟨hB k hk, hA.lt hk⟩
theorem AR.only {B c : Nat} {F p : Nat → Prop} {st : St} {w w' : World} (h : AR B c F st w) (ho : Only p w w') (hp : ∀ k, F k → ¬ p k) : AR B c F st w' := by
  obtain ⟨s, q, L, E, rfl, hA, hI, hB⟩ := h
  exact ⟨s, q, L, E, rfl, hA.only ho hp, hI, hB⟩
theorem AR.below {B c : Nat} {F : Nat → Prop} {st : St} {w w' : World} (h : AR B c F st w) (hb : Below w.heap.size w w') : AR B c F st w' := h.only (only_below hb) (fun _ _ e => e)
theorem AR.ok {B c : Nat} {F : Nat → Prop} {st : St} {w : World} (h : AR B c F st w) : st.Ok := by
  obtain ⟨s, q, L, E, rfl, hA, hI, hB⟩ := h; exact hI.ok
theorem AR.room {B c : Nat} {F : Nat → Prop} {st : St} {w : World} (h : AR B c F st w) : st.U.length ≤ 4096 := by
  obtain ⟨s, q, L, E, rfl, hA, hI, hB⟩ := h; rw [← hI.len]; exact hA.room

set_option maxRecDepth 100000 in
set_option maxHeartbeats 1000000 in
theorem Lowest_any (c s : Nat) (q : Value) (L : List Pl) (E : List (Int × Int)) (st : St) (w : World) (hA : Hid (Ar c s q L E w)) (hI : Hid (Inv L E st)) :
    Calls Try.prog 59 #[.pointer (some ⟨c, 0, none⟩)] w fun e w' => e = .returned (.int .i64 (lowF st.U 0)) ∧ w = w' := by
  obtain ⟨c0, c1, f0, f1⟩ := hA.out.cells
  have hr := hA.out.room
  obtain ⟨N, eN⟩ : ∃ N, L.length = N := ⟨_, rfl⟩
  rw [eN] at c0 hr
  have eU : Hid (st.U.length = N) := Lib.hid (by rw [← hI.out.len, eN])
  have E1 : Hid (lowF st.U 0 = lowF (st.U.drop 0) 0) := Lib.hid rfl
  obtain ⟨X, eX⟩ : ∃ X, lowF st.U 0 = X := ⟨_, rfl⟩
  rw [eX] at E1 ⊢
  clear eX eN
  go_enter Try.func59, Try.ntmps59
  go_wp2_with fail
  go_loop [9] (fun i => ∃ k : Nat, i = .int .i64 k ∧ k ≤ N ∧ Hid (X = lowF (st.U.drop k) k)) (fun i => (N - intOf i).toNat)
  case atStart => exact ⟨0, rfl, by omega, E1⟩
  case round =>
    clear E1
    obtain ⟨k, rfl, hk, hE⟩ := hrel
    by_cases hlt : k < N
    · have d1 : decide (k < N) = true := decide_eq_true hlt
      obtain ⟨b, hb⟩ : ∃ b, st.U[k]? = some b := ⟨_, List.getElem?_eq_getElem (by rw [eU.out]; exact hlt)⟩
      have HU := Lib.hid (Used_any c s q L E (k : Int) w hA)
      rw [hI.out.used hb] at HU
      cases b with
      | true =>
        have hE2 : Hid (X = lowF (st.U.drop (k + 1)) (k + 1)) := Lib.hid (by rw [hE.out, lowF_used hb])
        clear hb hE
        go_wp2_with fail
        refine HU.out.mono ?_
        rintro e w' ⟨rfl, rfl⟩
        go_wp2_with fail
        go_round
        case rel => exact ⟨k + 1, by go_num, by omega, hE2⟩
        case measure => simp [intOf]; omega
      | false =>
        have hE2 : Hid (X = (k : Int)) := Lib.hid (by rw [hE.out, lowF_free hb])
        clear hb hE
        go_wp2_with fail
        refine HU.out.mono ?_
        rintro e w' ⟨rfl, rfl⟩
        go_wp2_with fail
        go_ret
        exact ⟨by rw [hE2.out]; rfl, rfl⟩
    · obtain rfl : k = N := by omega
      have d1 : decide (k < k) = false := by simp
      have hE2 : Hid (X = -1) := Lib.hid (by rw [hE.out, lowF_end (by rw [eU.out]; omega)])
      clear hE
      go_wp2_with fail
      go_ret
      exact ⟨by rw [hE2.out]; rfl, rfl⟩

theorem build_zero : ∀ W : World, (Instr.build 112 #[]).run Try.prog W = .ok (.agg #[.int .i64 0, .int .i64 0, .int .i64 0, .bool false, .int .i64 0, .int .i64 0, .int .i64 0]) W := fun W => by kernel_rfl
theorem build_entry (s i n : Int) (t : Bool) : ∀ W : World, (Instr.build 90 #[(0, .int .i64 s), (1, .int .i64 i), (2, .int .i64 n), (3, .bool t)]).run Try.prog W = .ok (.agg #[.int .i64 s, .int .i64 i, .int .i64 n, .bool t]) W := fun W => by kernel_rfl
theorem build_place (s i n q : Int) (t : Bool) : ∀ W : World, (Instr.build 112 #[(0, .agg #[.int .i64 s, .int .i64 i, .int .i64 n, .bool t]), (1, .int .i64 q)]).run Try.prog W = .ok (.agg #[.int .i64 s, .int .i64 i, .int .i64 n, .bool t, .int .i64 q, .int .i64 0, .int .i64 0]) W := fun W => by kernel_rfl
theorem row7 {w : World} {g : Nat} {T : TypeId} {x0 x1 x2 x3 x4 x5 x6 : Value} (h : w.heap[g]? = some (.cells #[x0, x1, x2, x3, x4, x5, x6] T (0, 0))) :
    w.cell? ⟨g, 0, none⟩ = some x0 ∧ w.cell? ⟨g, 1, none⟩ = some x1 ∧ w.cell? ⟨g, 2, none⟩ = some x2 ∧ w.cell? ⟨g, 3, none⟩ = some x3 ∧ w.cell? ⟨g, 4, none⟩ = some x4 ∧ w.cell? ⟨g, 5, none⟩ = some x5 ∧ w.cell? ⟨g, 6, none⟩ = some x6 := by
  refine ⟨?_, ?_, ?_, ?_, ?_, ?_, ?_⟩ <;> (rw [Lib.cell_of_heap h]; rfl)
theorem Ar.seven {c s : Nat} {q : Value} {L : List Pl} {E : List (Int × Int)} {w : World} (h : Ar c s q L E w) {i : Nat} {r : Pl} (hr : L[i]? = some r) :
    (w.cell? ⟨s, i * 7, none⟩ = some (.int .i64 r.s) ∧ w.cell? ⟨s, i * 7 + 1, none⟩ = some (.int .i64 r.i) ∧ w.cell? ⟨s, i * 7 + 2, none⟩ = some (.int .i64 r.n) ∧ w.cell? ⟨s, i * 7 + 3, none⟩ = some (.bool r.t) ∧ w.cell? ⟨s, i * 7 + 4, none⟩ = some (.int .i64 r.k) ∧ w.cell? ⟨s, i * 7 + 5, none⟩ = some (.int .i64 r.p) ∧ w.cell? ⟨s, i * 7 + 6, none⟩ = some (.int .i64 r.x)) ∧
    (w.frozen? ⟨s, i * 7, none⟩ = false ∧ w.frozen? ⟨s, i * 7 + 1, none⟩ = false ∧ w.frozen? ⟨s, i * 7 + 2, none⟩ = false ∧ w.frozen? ⟨s, i * 7 + 3, none⟩ = false ∧ w.frozen? ⟨s, i * 7 + 4, none⟩ = false ∧ w.frozen? ⟨s, i * 7 + 5, none⟩ = false ∧ w.frozen? ⟨s, i * 7 + 6, none⟩ = false) :=
  ⟨⟨(h.place hr 0 (by omega)).1, (h.place hr 1 (by omega)).1, (h.place hr 2 (by omega)).1, (h.place hr 3 (by omega)).1, (h.place hr 4 (by omega)).1, (h.place hr 5 (by omega)).1, (h.place hr 6 (by omega)).1⟩,
   ⟨(h.place hr 0 (by omega)).2, (h.place hr 1 (by omega)).2, (h.place hr 2 (by omega)).2, (h.place hr 3 (by omega)).2, (h.place hr 4 (by omega)).2, (h.place hr 5 (by omega)).2, (h.place hr 6 (by omega)).2⟩⟩
/-- A whole place is stored. -/
theorem Ar.put {c s : Nat} {q : Value} {L : List Pl} {E : List (Int × Int)} {w : World} (h : Ar c s q L E w) {i : Nat} {r : Pl} (hr : L[i]? = some r) (z : Pl) :
    Ar c s q (L.set i z) E (((((((w.setCell ⟨s, i * 7, none⟩ (.int .i64 z.s)).setCell ⟨s, i * 7 + 1, none⟩ (.int .i64 z.i)).setCell ⟨s, i * 7 + 2, none⟩ (.int .i64 z.n)).setCell ⟨s, i * 7 + 3, none⟩ (.bool z.t)).setCell ⟨s, i * 7 + 4, none⟩ (.int .i64 z.k)).setCell ⟨s, i * 7 + 5, none⟩ (.int .i64 z.p)).setCell ⟨s, i * 7 + 6, none⟩ (.int .i64 z.x)) := by
  have hi : i < L.length := (List.getElem?_eq_some_iff.1 hr).1
  have at' : ∀ (y : Pl), (L.set i y)[i]? = some y := fun y => by rw [set_get, if_pos rfl, if_pos hi]
  have a0 := Ar.setP (r' := { r with s := z.s }) (m := 0) h hr (by omega) rfl
  have a1 := Ar.setP (r' := { r with s := z.s, i := z.i }) (m := 1) a0 (at' _) (by omega) rfl
  rw [List.set_set] at a1
  have a2 := Ar.setP (r' := { r with s := z.s, i := z.i, n := z.n }) (m := 2) a1 (at' _) (by omega) rfl
  rw [List.set_set] at a2
  have a3 := Ar.setP (r' := { r with s := z.s, i := z.i, n := z.n, t := z.t }) (m := 3) a2 (at' _) (by omega) rfl
  rw [List.set_set] at a3
  have a4 := Ar.setP (r' := { r with s := z.s, i := z.i, n := z.n, t := z.t, k := z.k }) (m := 4) a3 (at' _) (by omega) rfl
  rw [List.set_set] at a4
  have a5 := Ar.setP (r' := { r with s := z.s, i := z.i, n := z.n, t := z.t, k := z.k, p := z.p }) (m := 5) a4 (at' _) (by omega) rfl
  rw [List.set_set] at a5
  have a6 := Ar.setP (r' := z) (m := 6) a5 (at' _) (by omega) rfl
  rw [List.set_set] at a6
  exact a6
theorem put_only {c s : Nat} {q : Value} {w : World} {b : Nat} (hb : foot c s q b) (j0 j1 j2 j3 j4 j5 j6 : Nat) (v0 v1 v2 v3 v4 v5 v6 : Value) :
    Only (foot c s q) w (((((((w.setCell ⟨b, j0, none⟩ v0).setCell ⟨b, j1, none⟩ v1).setCell ⟨b, j2, none⟩ v2).setCell ⟨b, j3, none⟩ v3).setCell ⟨b, j4, none⟩ v4).setCell ⟨b, j5, none⟩ v5).setCell ⟨b, j6, none⟩ v6) :=
  (((((((foot_set hb).trans (foot_set hb)).trans (foot_set hb)).trans (foot_set hb)).trans (foot_set hb)).trans (foot_set hb)).trans (foot_set hb))
set_option maxRecDepth 100000 in
set_option maxHeartbeats 1000000 in
theorem Remove_any (c s : Nat) (q : Value) (L : List Pl) (E : List (Int × Int)) (i k : Nat) (r : Pl) (w : World) (hA : Hid (Ar c s q L E w)) (hE : E.length ≤ 9223372036854775807) (hk : k < E.length) (hr : Hid (L[i]? = some r)) (ek : r.k = (k : Int)) (hp : Hid (Slot L.length r.p)) (hx : Hid (Slot L.length r.x)) :
    Calls Try.prog 62 #[.pointer (some ⟨c, 0, none⟩), .int .i64 i] w fun e w' => e = .returned (.tuple #[]) ∧ Ar c s q ((linkL L r.p r.x).set i zeroP) (linkE E k r.p r.x) w' ∧ Only (foot c s q) w w' := by
  obtain ⟨c0, c1, f0, f1⟩ := hA.out.cells
  have hn := hA.out.room
  have hi : i < L.length := (List.getElem?_eq_some_iff.1 hr.out).1
  obtain ⟨⟨p0, p1, p2, p3, p4, p5, p6⟩, -⟩ := hA.out.seven hr.out
  obtain ⟨N, eN⟩ : ∃ N, L.length = N := ⟨_, rfl⟩
  rw [eN] at c0 hn hi
  replace eN := Lib.hid eN
  obtain ⟨rs, ri, rn, rt, rk, rp, rx⟩ := r
  simp only at p0 p1 p2 p3 p4 p5 p6 ek hp hx ⊢
  subst ek
  have A1 := Lib.hid (hA.out.only (alloc_only w (.cells #[.int .i64 rs, .int .i64 ri, .int .i64 rn, .bool rt, .int .i64 (k : Int), .int .i64 rp, .int .i64 rx] 112)) (fun _ _ e => e))
  have O1 : Hid (Only (foot c s q) w (w.alloc (.cells #[.int .i64 rs, .int .i64 ri, .int .i64 rn, .bool rt, .int .i64 (k : Int), .int .i64 rp, .int .i64 rx] 112))) := Lib.hid ((alloc_only w _).mono (fun _ _ e => e.elim))
  have G1 : Hid ((w.alloc (.cells #[.int .i64 rs, .int .i64 ri, .int .i64 rn, .bool rt, .int .i64 (k : Int), .int .i64 rp, .int .i64 rx] 112)).heap[w.heap.size]? = some (.cells #[.int .i64 rs, .int .i64 ri, .int .i64 rn, .bool rt, .int .i64 (k : Int), .int .i64 rp, .int .i64 rx] 112 (0, 0))) := Lib.hid (heap_alloc_new w _)
  go_enter Try.func62, Try.ntmps62
  go_wp2_with fail
  refine (Link_any c s q L E k rp rx _ A1 hE hk hp hx).mono ?_
  rintro e w2 ⟨rfl, A2, O2⟩
  have A2 := Lib.hid A2
  have O2 := Lib.hid (O1.out.trans O2)
  clear c0 c1 f0 f1 p0 p1 p2 p3 p4 p5 p6 O1 A1 G1
  obtain ⟨c0, c1, f0, f1⟩ := A2.out.cells
  rw [linkL_len, eN.out] at c0
  obtain ⟨r2, hr2⟩ : ∃ r, (linkL L rp rx)[i]? = some r := ⟨_, List.getElem?_eq_getElem (by rw [linkL_len, eN.out]; exact hi)⟩
  obtain ⟨⟨p0, p1, p2, p3, p4, p5, p6⟩, ⟨y0, y1, y2, y3, y4, y5, y6⟩⟩ := A2.out.seven hr2
  replace hr2 := Lib.hid hr2
  have fin1 := Lib.hid (A2.out.put hr2.out zeroP)
  have fin2 := Lib.hid (O2.out.trans (put_only (w := w2) (c := c) (s := s) (q := q) (b := s) (.inr (.inl rfl)) (i * 7) (i * 7 + 1) (i * 7 + 2) (i * 7 + 3) (i * 7 + 4) (i * 7 + 5) (i * 7 + 6) (.int .i64 0) (.int .i64 0) (.int .i64 0) (.bool false) (.int .i64 0) (.int .i64 0) (.int .i64 0)))
  have hbz := build_zero
  go_wp2_with fail
  go_end0
  exact ⟨rfl, fin1.out, fin2.out⟩
end Go.Proofs.Ytlknlicokacoiaa
