/-
  Plain facts on products, codes of months and names of spreads, as lists of bytes. No program is named here.
-/
import Derived.Test.YtpfgmebajefjaaaTexts
namespace Go.Proofs.Ytpfgmebajefjaaa
open Go.RowKit
set_option linter.unusedVariables false
set_option linter.unusedSimpArgs false

/-! ### Bytes below 128 -/
theorem step_ascii {l : List UInt8} (h : l ≠ []) : ((step l).1 < 128 → ∃ b, l.take (step l).2 = [b] ∧ b.toNat = (step l).1) ∧ (128 ≤ (step l).1 → ∀ x ∈ l.take (step l).2, 128 ≤ x.toNat) := by
  cases l with
  | nil => exact absurd rfl h
  | cons b t =>
    have hc := step_cons b t
    by_cases hb : b.toNat < 128
    · have e : ∀ y, dec b y = (b.toNat, 1) := by intro y; unfold dec; split <;> simp [hb]
      rw [e] at hc
      rw [hc]
      refine ⟨fun _ => ⟨b, by simp, rfl⟩, fun hx => ?_⟩
      simp at hx; omega
    · have hl := (step_len (b :: t)).1
      obtain ⟨z, hz⟩ := tw_split t
      have hw := (dec_width b (tw t)).2
      have hp := (dec_width b (tw t)).1
      rw [← hc] at hw hp
      refine ⟨fun hx => ?_, fun hx x hm => ?_⟩
      · exfalso
        have h1 := hl hx
        rw [hc] at hx
        rcases dec_ways b (tw t) with h2 | ⟨c1, c', r, e, h2⟩ | ⟨c1, c2, c', r, e, h2⟩ | ⟨c1, c2, c3, c', r, e, h2⟩ | h2
        · rw [h2] at hx; simp at hx; omega
        · rw [hc, e, h2] at h1; simp at h1
        · rw [hc, e, h2] at h1; simp at h1
        · rw [hc, e, h2] at h1; simp at h1
        · have := h2 (tw t).length
          rw [List.take_length] at this
          rw [this] at hx
          simp at hx
      · obtain ⟨d, hd⟩ : ∃ d, (step (b :: t)).2 = d + 1 := ⟨(step (b :: t)).2 - 1, by omega⟩
        rw [hd, List.take_succ_cons] at hm
        rcases List.mem_cons.1 hm with rfl | hm
        · omega
        · have hm2 : x ∈ tw t := by
            rw [hz, List.take_append_of_le_length (by omega)] at hm
            exact List.mem_of_mem_take hm
          have := tw_all t x hm2
          simp only [contB, beq_iff_eq] at this
          omega
theorem piece_ascii (l : List UInt8) : ∀ p ∈ runes l, (p.1 < 128 → ∃ b, p.2 = [b] ∧ b.toNat = p.1) ∧ (128 ≤ p.1 → ∀ x ∈ p.2, 128 ≤ x.toNat) := by
  refine rune_ind (C := fun l => ∀ p ∈ runes l, (p.1 < 128 → ∃ b, p.2 = [b] ∧ b.toNat = p.1) ∧ (128 ≤ p.1 → ∀ x ∈ p.2, 128 ≤ x.toNat)) (by simp [runes_nil]) (fun l h ih => ?_) l
  show ∀ p ∈ runes l, _
  intro p hp
  rw [runes_cons l h, List.mem_cons] at hp
  rcases hp with rfl | hp
  · exact step_ascii h
  · exact ih p hp
theorem runes_ascii (t : List UInt8) (h : ∀ b ∈ t, b.toNat < 128) : runes t = t.map (fun b => (b.toNat, [b])) := by
  induction t with
  | nil => rfl
  | cons b t ih =>
    have hb := h b List.mem_cons_self
    have e : step (b :: t) = (b.toNat, 1) := by rw [step_cons]; unfold dec; split <;> simp [hb]
    rw [runes_cons _ (by simp), e, List.map_cons]
    simp only [List.take_succ_cons, List.take_zero, List.drop_succ_cons, List.drop_zero]
    rw [ih (fun c hc => h c (List.mem_cons_of_mem _ hc))]
theorem tw_ascii {t : List UInt8} (h : ∀ b ∈ t, b.toNat < 128) : tw t = [] := by
  cases t with
  | nil => rfl
  | cons b t =>
    have := h b List.mem_cons_self
    refine tw_cons_no ?_
    simp only [contB, beq_eq_false_iff_ne]; omega
/-- Behind k runes a place stands. -/
theorem at_cat (l : List UInt8) (k : Nat) (h : k ≤ (runes l).length) : At l k (cat ((runes l).take k)).length := by
  induction k with
  | zero => simp only [List.take_zero, cat_nil, List.length_nil]; exact at_zero l
  | succ k ih =>
    have h1 := ih (by omega)
    have hp : (cat ((runes l).take k)).length < l.length := by
      apply Decidable.byContradiction
      intro hn
      have := (at_end h1 hn).2
      omega
    obtain ⟨h2, h3, h4, h5⟩ := at_next h1 hp
    have he : cat ((runes l).take (k + 1)) = l.take ((cat ((runes l).take k)).length + (step (l.drop (cat ((runes l).take k)).length)).2) := h4.2.2.2
    have : (cat ((runes l).take (k + 1))).length = (cat ((runes l).take k)).length + (step (l.drop (cat ((runes l).take k)).length)).2 := by
      rw [he, List.length_take]; omega
    rw [this]; exact h4
theorem at_uniq {l : List UInt8} {k pos : Nat} (h : At l k pos) : pos = (cat ((runes l).take k)).length := by
  have := congrArg List.length h.2.2.2
  rw [List.length_take] at this
  have := h.1
  omega

/-! ### Products -/
/-- May a product have the rune? -/
def okS (r : Nat) : Bool := decide ((65 ≤ r ∧ r ≤ 90) ∨ (913 ≤ r ∧ r ≤ 937 ∧ r ≠ 930))
theorem okS_yes {r : Nat} (h : okS r = true) : (65 ≤ r ∧ r ≤ 90) ∨ (913 ≤ r ∧ r ≤ 937 ∧ r ≠ 930) := of_decide_eq_true h
theorem okS_no {r : Nat} (h : okS r = false) : ¬ ((65 ≤ r ∧ r ≤ 90) ∨ (913 ≤ r ∧ r ≤ 937 ∧ r ≠ 930)) := of_decide_eq_false h
theorem okS_ways {r : Nat} (h : okS r = false) : r < 65 ∨ (90 < r ∧ r < 913) ∨ 937 < r ∨ r = 930 := by have := okS_no h; omega
/-- Is the text a product? -/
def prodB (l : List UInt8) : Bool := (runes l).all (fun p => okS p.1) && (decide (1 ≤ (runes l).length) && decide ((runes l).length ≤ 4))
theorem prodB_yes {l : List UInt8} (h : prodB l = true) : (∀ p ∈ runes l, okS p.1 = true) ∧ 1 ≤ (runes l).length ∧ (runes l).length ≤ 4 := by
  unfold prodB at h
  simp only [Bool.and_eq_true, List.all_eq_true, decide_eq_true_eq] at h
  exact ⟨h.1, h.2.1, h.2.2⟩
theorem prodB_of {l : List UInt8} (h1 : ∀ p ∈ runes l, okS p.1 = true) (h2 : 1 ≤ (runes l).length) (h3 : (runes l).length ≤ 4) : prodB l = true := by
  unfold prodB
  simp only [Bool.and_eq_true, List.all_eq_true, decide_eq_true_eq]
  exact ⟨h1, h2, h3⟩
theorem prodB_long {l : List UInt8} (h : 4 < (runes l).length) : prodB l = false := by
  unfold prodB
  rw [show decide ((runes l).length ≤ 4) = false from decide_eq_false (by omega)]
  simp
theorem prodB_bad {l : List UInt8} {k r : Nat} {x : List UInt8} (h : (runes l)[k]? = some (r, x)) (hr : okS r = false) : prodB l = false := by
  have hm := List.mem_of_getElem? h
  have : (runes l).all (fun p => okS p.1) = false := by
    rw [List.all_eq_false]
    exact ⟨_, hm, by simp [hr]⟩
  unfold prodB
  rw [this]
  rfl
theorem prodB_nil : prodB [] = false := rfl
/-- The first k runes are such as may be. -/
def OkS (l : List UInt8) (k : Nat) : Prop := ∀ i r x, i < k → (runes l)[i]? = some (r, x) → okS r = true
theorem okS_zero (l : List UInt8) : OkS l 0 := fun i r x h => absurd h (Nat.not_lt_zero _)
theorem okS_next {l : List UInt8} {k r : Nat} {x : List UInt8} (h : OkS l k) (hk : (runes l)[k]? = some (r, x)) (hr : okS r = true) : OkS l (k + 1) := by
  intro i r' x' hi he
  by_cases e : i = k
  · subst e; rw [hk] at he; cases he; exact hr
  · exact h i r' x' (by omega) he
theorem okS_all {l : List UInt8} (h : OkS l (runes l).length) : ∀ p ∈ runes l, okS p.1 = true := by
  intro p hp
  obtain ⟨i, hi, he⟩ := List.mem_iff_getElem.1 hp
  refine h i p.1 p.2 hi ?_
  rw [List.getElem?_eq_getElem hi, he]
theorem prodB_end {l : List UInt8} (h : OkS l (runes l).length) (h4 : (runes l).length ≤ 4) : prodB l = decide (0 < ((runes l).length : Int)) := by
  by_cases h1 : 1 ≤ (runes l).length
  · rw [prodB_of (okS_all h) h1 h4, decide_eq_true (by omega)]
  · unfold prodB
    rw [decide_eq_false (show ¬ 1 ≤ (runes l).length from h1), decide_eq_false (show ¬ (0 : Int) < ((runes l).length : Int) by omega)]
    simp
theorem prodB_end2 {l : List UInt8} (h : OkS l (runes l).length) : (if 1 ≤ ((runes l).length : Int) then decide (((runes l).length : Int) ≤ 4) else false) = prodB l := by
  by_cases h4 : (runes l).length ≤ 4
  · rw [prodB_end h h4]
    by_cases h1 : 1 ≤ (runes l).length
    · rw [if_pos (by omega), decide_eq_true (by omega), decide_eq_true (by omega)]
    · rw [if_neg (by omega), decide_eq_false (by omega)]
  · rw [prodB_long (by omega), if_pos (by omega), decide_eq_false (by omega)]
/-- The bytes of a product: neither a stroke nor a digit, and few of them. -/
theorem prodB_bytes {l : List UInt8} (h : prodB l = true) : ∀ x ∈ l, 65 ≤ x.toNat := by
  intro x hx
  rw [← cat_runes l] at hx
  obtain ⟨p, hp, hxp⟩ := List.mem_flatMap.1 hx
  obtain ⟨h1, h2⟩ := piece_ascii l p hp
  have hk := okS_yes ((prodB_yes h).1 p hp)
  by_cases h3 : p.1 < 128
  · obtain ⟨b, e1, e2⟩ := h1 h3
    rw [e1] at hxp
    rw [List.mem_singleton.1 hxp]
    omega
  · have := h2 (by omega) x hxp
    omega
theorem prodB_len {l : List UInt8} (h : prodB l = true) : 1 ≤ l.length ∧ l.length ≤ 8 := by
  obtain ⟨h1, h2, h3⟩ := prodB_yes h
  refine ⟨Nat.le_trans h2 (runes_len l), ?_⟩
  have hb : ∀ P : List (Nat × List UInt8), (∀ p ∈ P, p.2.length ≤ 2) → (cat P).length ≤ 2 * P.length := by
    intro P
    induction P with
    | nil => intro _; simp [cat]
    | cons p P ih =>
      intro hP
      have := ih (fun q hq => hP q (List.mem_cons_of_mem _ hq))
      have := hP p List.mem_cons_self
      rw [cat_cons, List.length_append, List.length_cons]; omega
  have := hb (runes l) (fun p hp => by
    have hk := okS_yes (h1 p hp)
    have hl := rune_len l p hp
    rcases hk with hk | hk
    · rw [hl.1 (by omega)]; omega
    · rw [hl.2 (by omega) (by omega)]; omega)
  rw [cat_runes] at this
  omega

/-! ### Codes of months -/
def letters : List UInt8 := [70, 71, 72, 74, 75, 77, 78, 81, 85, 86, 88, 90]
/-- The month of a year that has the letter. -/
def idx (a : Nat) : Option Nat := (List.range 12).find? (fun i => (letters.getD i 0).toNat == a)
theorem letters_big : ∀ i, i < 12 → 70 ≤ (letters.getD i 0).toNat ∧ (letters.getD i 0).toNat ≤ 90 := by decide
theorem idx_some {a i : Nat} (h : idx a = some i) : i < 12 ∧ (letters.getD i 0).toNat = a := by
  have h1 := List.mem_of_find?_eq_some h
  have h2 := List.find?_some h
  exact ⟨List.mem_range.1 h1, by simpa using h2⟩
theorem idx_none {a : Nat} (h : idx a = none) : ∀ i, i < 12 → (letters.getD i 0).toNat ≠ a := by
  intro i hi
  have := List.find?_eq_none.1 h i (List.mem_range.2 hi)
  simpa using this
theorem idx_at : ∀ i, i < 12 → idx (letters.getD i 0).toNat = some i := by decide
theorem idx_of {a i : Nat} (hi : i < 12) (h : (letters.getD i 0).toNat = a) : idx a = some i := by rw [← h]; exact idx_at i hi
/-- The month of a letter and two digits. -/
def dig (b : Nat) : Bool := decide (48 ≤ b ∧ b ≤ 57)
theorem dig_yes {b : Nat} (h : dig b = true) : 48 ≤ b ∧ b ≤ 57 := of_decide_eq_true h
theorem dig_no {b : Nat} (h : dig b = false) : ¬ (48 ≤ b ∧ b ≤ 57) := of_decide_eq_false h
theorem dig_of {b : Nat} (h : 48 ≤ b ∧ b ≤ 57) : dig b = true := decide_eq_true h
def readO (a b c : Nat) : Option Nat := bif dig b && dig c then (idx a).map (fun i => 12 * (10 * (b - 48) + (c - 48)) + i) else none
theorem readO_yes {a b c i : Nat} (h1 : idx a = some i) (h2 : dig b = true) (h3 : dig c = true) : readO a b c = some (12 * (10 * (b - 48) + (c - 48)) + i) := by unfold readO; rw [h1, h2, h3]; rfl
theorem readO_idx {a b c : Nat} (h1 : idx a = none) : readO a b c = none := by unfold readO; rw [h1]; cases dig b <;> cases dig c <;> rfl
theorem readO_two {a b c : Nat} (h1 : dig b = false) : readO a b c = none := by unfold readO; rw [h1]; rfl
theorem readO_three {a b c : Nat} (h1 : dig c = false) : readO a b c = none := by unfold readO; rw [h1, Bool.and_false]; rfl
theorem readO_some {a b c m : Nat} (h : readO a b c = some m) : ∃ i, idx a = some i ∧ dig b = true ∧ dig c = true ∧ m = 12 * (10 * (b - 48) + (c - 48)) + i := by
  cases h2 : dig b
  · rw [readO_two h2] at h; cases h
  · cases h3 : dig c
    · rw [readO_three h3] at h; cases h
    · cases h1 : idx a with
      | none => rw [readO_idx h1] at h; cases h
      | some i => rw [readO_yes h1 h2 h3] at h; cases h; exact ⟨i, rfl, rfl, rfl, rfl⟩
/-- The letter and the digits of a month. -/
def tail (m : Nat) : List UInt8 := [letters.getD (m % 12) 0, UInt8.ofNat (48 + m / 12 / 10), UInt8.ofNat (48 + m / 12 % 10)]
theorem tail_len (m : Nat) : (tail m).length = 3 := rfl
theorem digit_nat {k : Nat} (h : k ≤ 9) : (UInt8.ofNat (48 + k)).toNat = 48 + k := by simp; omega
theorem readO_tail {m : Nat} (h : m < 1200) : readO (letters.getD (m % 12) 0).toNat (UInt8.ofNat (48 + m / 12 / 10)).toNat (UInt8.ofNat (48 + m / 12 % 10)).toNat = some m := by
  rw [digit_nat (by omega), digit_nat (by omega), readO_yes (idx_at _ (by omega)) (dig_of (by omega)) (dig_of (by omega))]
  congr 1
  omega
theorem readO_bytes {c d e : UInt8} {m : Nat} (h : readO c.toNat d.toNat e.toNat = some m) : m < 1200 ∧ [c, d, e] = tail m := by
  obtain ⟨i, h1, h2, h3, rfl⟩ := readO_some h
  obtain ⟨h4, h5⟩ := idx_some h1
  have h2 := dig_yes h2
  have h3 := dig_yes h3
  refine ⟨by omega, ?_⟩
  unfold tail
  rw [show (12 * (10 * (d.toNat - 48) + (e.toNat - 48)) + i) % 12 = i by omega, show (12 * (10 * (d.toNat - 48) + (e.toNat - 48)) + i) / 12 / 10 = d.toNat - 48 by omega, show (12 * (10 * (d.toNat - 48) + (e.toNat - 48)) + i) / 12 % 10 = e.toNat - 48 by omega]
  rw [show 48 + (d.toNat - 48) = d.toNat by omega, show 48 + (e.toNat - 48) = e.toNat by omega, UInt8.ofNat_toNat, UInt8.ofNat_toNat]
  congr 1
  exact UInt8.toNat_inj.1 h5.symm
theorem tail_inj {m n : Nat} (hm : m < 1200) (hn : n < 1200) (h : tail m = tail n) : m = n := by
  have h1 := readO_tail hm
  have h2 := readO_tail hn
  unfold tail at h
  injection h with e1 h
  injection h with e2 h
  injection h with e3 h
  rw [e1, e2, e3, h2] at h1
  injection h1 with h1
  exact h1.symm
theorem tail_bytes {m : Nat} (h : m < 1200) : ∀ x ∈ tail m, 48 ≤ x.toNat ∧ x.toNat < 128 := by
  intro x hx
  have h0 := letters_big (m % 12) (by omega)
  have h1 := digit_nat (k := m / 12 / 10) (by omega)
  have h2 := digit_nat (k := m / 12 % 10) (by omega)
  simp only [tail, List.mem_cons, List.not_mem_nil, or_false] at hx
  rcases hx with rfl | rfl | rfl <;> omega
theorem runes_code {p : List UInt8} {m : Nat} (h : m < 1200) : runes (p ++ tail m) = runes p ++ (tail m).map (fun b => (b.toNat, [b])) := by
  rw [runes_append _ _ (tw_ascii (fun b hb => (tail_bytes h b hb).2)), runes_ascii _ (fun b hb => (tail_bytes h b hb).2)]

/-- The text is the code of the product's month. -/
def IsCode (l p : List UInt8) (m : Nat) : Prop := prodB p = true ∧ m < 1200 ∧ l = p ++ tail m
/-- What a text is the code of. -/
def last3 : List UInt8 → Option Nat
  | [c, d, e] => readO c.toNat d.toNat e.toNat
  | _ => none
def parseO (l : List UInt8) : Option (List UInt8 × Nat) := bif prodB (l.take (l.length - 3)) then (last3 (l.drop (l.length - 3))).map (fun m => (l.take (l.length - 3), m)) else none
theorem parseO_app (p : List UInt8) (c d e : UInt8) : parseO (p ++ [c, d, e]) = bif prodB p then (readO c.toNat d.toNat e.toNat).map (fun m => (p, m)) else none := by
  have h : (p ++ [c, d, e]).length - 3 = p.length := by rw [List.length_append]; simp
  unfold parseO
  rw [h, List.take_left', List.drop_left']
  · rfl
  · rfl
  · rfl
theorem parseO_code {l p : List UInt8} {m : Nat} (h : IsCode l p m) : parseO l = some (p, m) := by
  obtain ⟨h1, h2, rfl⟩ := h
  unfold tail
  rw [parseO_app, h1, cond_true, readO_tail h2]
  rfl
theorem last3_some {t : List UInt8} {m : Nat} (h : last3 t = some m) : m < 1200 ∧ t = tail m := by
  match t with
  | [c, d, e] => exact readO_bytes h
  | [] => cases h
  | [c] => cases h
  | [c, d] => cases h
  | c :: d :: e :: f :: t => cases h
theorem code_of {l p : List UInt8} {m : Nat} (h : parseO l = some (p, m)) : IsCode l p m := by
  unfold parseO at h
  cases hp : prodB (l.take (l.length - 3))
  · rw [hp] at h; cases h
  · rw [hp, cond_true] at h
    cases h3 : last3 (l.drop (l.length - 3)) with
    | none => rw [h3] at h; cases h
    | some k =>
      rw [h3] at h
      simp only [Option.map_some, Option.some.injEq, Prod.mk.injEq] at h
      obtain ⟨rfl, rfl⟩ := h
      obtain ⟨h4, h5⟩ := last3_some h3
      exact ⟨hp, h4, by rw [← h5, List.take_append_drop]⟩
theorem parseO_short {l : List UInt8} (h : l.length < 4) : parseO l = none := by
  cases hp : parseO l with
  | none => rfl
  | some x =>
    obtain ⟨p, m⟩ := x
    obtain ⟨h1, h2, h3⟩ := code_of hp
    have := (prodB_len h1).1
    rw [h3, List.length_append, tail_len] at h
    omega
theorem parseO_nil : parseO [] = none := rfl

/-! ### Rune by rune -/
theorem code_runes {l p : List UInt8} {m : Nat} (h : IsCode l p m) :
    cutL l (((runes l).length : Int) - 3) = p ∧ runes (l.drop p.length) = (tail m).map (fun b => (b.toNat, [b])) := by
  obtain ⟨h1, h2, rfl⟩ := h
  have hr := runes_code (p := p) h2
  constructor
  · unfold cutL
    rw [hr, List.length_append, List.length_map, tail_len, show ((((runes p).length + 3 : Nat) : Int) - 3).toNat = (runes p).length by omega, List.take_left', cat_runes]
    rfl
  · rw [List.drop_left', runes_ascii _ (fun b hb => (tail_bytes h2 b hb).2)]
    rfl
theorem cut_no {l : List UInt8} (h : prodB (cutL l (((runes l).length : Int) - 3)) = false) : parseO l = none := by
  cases hp : parseO l with
  | none => rfl
  | some x =>
    obtain ⟨p, m⟩ := x
    have hc := code_of hp
    rw [(code_runes hc).1, hc.1] at h
    cases h
theorem cut_yes {l : List UInt8} (h : prodB (cutL l (((runes l).length : Int) - 3)) = true) : ∃ a b c xa xb xc, 
    runes (l.drop (cutL l (((runes l).length : Int) - 3)).length) = [(a, xa), (b, xb), (c, xc)] ∧ parseO l = (readO a b c).map (fun m => (cutL l (((runes l).length : Int) - 3), m)) := by
  have h4 : 4 ≤ (runes l).length := by
    apply Decidable.byContradiction
    intro hn
    rw [cutL_neg l (by omega)] at h
    rw [prodB_nil] at h; cases h
  have ha := at_cat l ((runes l).length - 3) (by omega)
  have hcut : cutL l (((runes l).length : Int) - 3) = cat ((runes l).take ((runes l).length - 3)) := by
    unfold cutL; rw [show (((runes l).length : Int) - 3).toNat = (runes l).length - 3 by omega]
  have hd := ha.2.2.1
  rw [← hcut] at hd
  have hlen : ((runes l).drop ((runes l).length - 3)).length = 3 := by rw [List.length_drop]; omega
  have ht := ha.2.2.2
  rw [← hcut] at ht
  obtain ⟨pa, pb, pc, e3⟩ : ∃ pa pb pc, (runes l).drop ((runes l).length - 3) = [pa, pb, pc] := by
    match hq : (runes l).drop ((runes l).length - 3), hlen with
    | [pa, pb, pc], _ => exact ⟨pa, pb, pc, rfl⟩
  rw [e3] at hd
  obtain ⟨a, xa⟩ := pa
  obtain ⟨b, xb⟩ := pb
  obtain ⟨c, xc⟩ := pc
  refine ⟨a, b, c, xa, xb, xc, hd, ?_⟩
  have hall := piece_ascii (l.drop (cutL l (((runes l).length : Int) - 3)).length)
  have hcat := cat_runes (l.drop (cutL l (((runes l).length : Int) - 3)).length)
  rw [hd] at hall hcat
  have hjoin : cutL l (((runes l).length : Int) - 3) ++ l.drop (cutL l (((runes l).length : Int) - 3)).length = l := by
    have := List.take_append_drop (cutL l (((runes l).length : Int) - 3)).length l
    rw [← ht] at this
    exact this
  cases hr : readO a b c with
  | some m =>
    obtain ⟨i, h1, h2, h3, em⟩ := readO_some hr
    obtain ⟨h5, h6⟩ := idx_some h1
    have h7 := letters_big i h5
    have h2 := dig_yes h2
    have h3 := dig_yes h3
    obtain ⟨ba, ea, na⟩ := (hall (a, xa) (by simp)).1 (show a < 128 by omega)
    obtain ⟨bb, eb, nb⟩ := (hall (b, xb) (by simp)).1 (show b < 128 by omega)
    obtain ⟨bc, ec, nc⟩ := (hall (c, xc) (by simp)).1 (show c < 128 by omega)
    simp only at ea eb ec na nb nc
    have hl : l.drop (cutL l (((runes l).length : Int) - 3)).length = [ba, bb, bc] := by
      rw [← hcat, ea, eb, ec]; rfl
    rw [← na, ← nb, ← nc] at hr
    obtain ⟨h8, h9⟩ := readO_bytes hr
    refine parseO_code ⟨h, h8, ?_⟩
    rw [← h9, ← hl, hjoin]
  | none =>
    cases hp : parseO l with
    | none => rfl
    | some x =>
      exfalso
      obtain ⟨p, m⟩ := x
      have hc := code_of hp
      obtain ⟨h1, h2⟩ := code_runes hc
      rw [h1, h2] at hd
      have hm := readO_tail hc.2.1
      simp only [tail, List.map_cons, List.map_nil, List.cons.injEq, Prod.mk.injEq, and_true] at hd
      obtain ⟨⟨e1, _⟩, ⟨e2, _⟩, ⟨e3, _⟩⟩ := hd
      rw [e1, e2, e3, hr] at hm
      cases hm
end Go.Proofs.Ytpfgmebajefjaaa
