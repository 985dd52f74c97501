/-
  Plain facts on runes: a text as the list of its runes, each with its own bytes. No program is named here.
-/
import Derived.WalkKit
namespace Go.Proofs.Ytpfgmebajefjaaa
open Go.RowKit
set_option linter.unusedVariables false
set_option linter.unusedSimpArgs false

/-- Does the byte go on with a rune? -/
def contB (b : UInt8) : Bool := b.toNat / 64 == 2
/-- The bytes at the head that go on with a rune. -/
def tw : List UInt8 → List UInt8
  | [] => []
  | b :: l => bif contB b then b :: tw l else []
/-- A number of 16 bits and more that is a rune. -/
def okC (c : Nat) : Bool := Utf8.valid (c : Int)
/-- The rune and the width of a byte with those behind it that go on with a rune. -/
def dec (b : UInt8) : List UInt8 → Nat × Nat
  | [] => if b.toNat < 128 then (b.toNat, 1) else (65533, 1)
  | [c1] => if b.toNat < 128 then (b.toNat, 1) else
      if b.toNat / 32 = 6 ∧ 128 ≤ b.toNat % 32 * 64 + c1.toNat % 64 then (b.toNat % 32 * 64 + c1.toNat % 64, 2) else (65533, 1)
  | [c1, c2] => if b.toNat < 128 then (b.toNat, 1) else
      if b.toNat / 32 = 6 ∧ 128 ≤ b.toNat % 32 * 64 + c1.toNat % 64 then (b.toNat % 32 * 64 + c1.toNat % 64, 2) else
      if b.toNat / 16 = 14 ∧ 2048 ≤ b.toNat % 16 * 4096 + c1.toNat % 64 * 64 + c2.toNat % 64 ∧ okC (b.toNat % 16 * 4096 + c1.toNat % 64 * 64 + c2.toNat % 64) = true then
        (b.toNat % 16 * 4096 + c1.toNat % 64 * 64 + c2.toNat % 64, 3) else (65533, 1)
  | c1 :: c2 :: c3 :: _ => if b.toNat < 128 then (b.toNat, 1) else
      if b.toNat / 32 = 6 ∧ 128 ≤ b.toNat % 32 * 64 + c1.toNat % 64 then (b.toNat % 32 * 64 + c1.toNat % 64, 2) else
      if b.toNat / 16 = 14 ∧ 2048 ≤ b.toNat % 16 * 4096 + c1.toNat % 64 * 64 + c2.toNat % 64 ∧ okC (b.toNat % 16 * 4096 + c1.toNat % 64 * 64 + c2.toNat % 64) = true then
        (b.toNat % 16 * 4096 + c1.toNat % 64 * 64 + c2.toNat % 64, 3) else
      if b.toNat / 8 = 30 ∧ 65536 ≤ b.toNat % 8 * 262144 + c1.toNat % 64 * 4096 + c2.toNat % 64 * 64 + c3.toNat % 64 ∧ okC (b.toNat % 8 * 262144 + c1.toNat % 64 * 4096 + c2.toNat % 64 * 64 + c3.toNat % 64) = true then
        (b.toNat % 8 * 262144 + c1.toNat % 64 * 4096 + c2.toNat % 64 * 64 + c3.toNat % 64, 4) else (65533, 1)
/-- The first rune of a text that is not empty, and its width. -/
def step : List UInt8 → Nat × Nat
  | [] => (65533, 1)
  | b :: l => dec b (tw l)

/-- The text of some bytes. -/
def str (l : List UInt8) : ByteArray := ⟨l.toArray⟩
theorem str_self (s : ByteArray) : str s.data.toList = s := rfl
theorem str_list (l : List UInt8) : (str l).data.toList = l := rfl
theorem str_size (l : List UInt8) : (str l).size = l.length := rfl
theorem str_inj {a b : List UInt8} (h : str a = str b) : a = b := by
  have := congrArg (fun s : ByteArray => s.data.toList) h
  exact this
theorem str_append (a b : List UInt8) : str a ++ str b = str (a ++ b) := by
  apply ByteArray.ext
  simp [str]
theorem get_str (l : List UInt8) (i : Nat) : (str l).get! i = l.getD i 0 := by
  show (l.toArray)[i]! = _
  simp [List.getD_eq_getElem?_getD, getElem!_def]
  cases l[i]? <;> rfl

theorem decode_str (l : List UInt8) (pos : Nat) (h : pos < l.length) : Utf8.decode (str l) pos = step (l.drop pos) := by
  obtain ⟨t, ht⟩ : ∃ t, l.drop pos = t := ⟨_, rfl⟩
  have g : ∀ k, (str l).get! (pos + k) = t.getD k 0 := by
    intro k
    rw [get_str, ← ht]
    simp [List.getD_eq_getElem?_getD, List.getElem?_drop]
  have hsz : (str l).size = pos + t.length := by
    rw [str_size, ← ht, List.length_drop]; omega
  have hlen : 0 < t.length := by rw [← ht, List.length_drop]; omega
  rw [ht]
  clear ht h
  obtain ⟨b, t, rfl⟩ : ∃ b t', t = b :: t' := by cases t with
    | nil => simp at hlen
    | cons b t => exact ⟨b, t, rfl⟩
  have g0 : (str l).get! pos = b := by have := g 0; simpa using this
  have g1 := g 1
  have g2 := g 2
  have g3 := g 3
  simp only [List.getD_cons_succ] at g1 g2 g3
  have s1 : pos + 1 < (str l).size ↔ 0 < t.length := by rw [hsz, List.length_cons]; omega
  have s2 : pos + 2 < (str l).size ↔ 1 < t.length := by rw [hsz, List.length_cons]; omega
  have s3 : pos + 3 < (str l).size ↔ 2 < t.length := by rw [hsz, List.length_cons]; omega
  clear g hsz hlen
  by_cases c0 : b.toNat < 128
  · simp only [Utf8.decode, Nat.add_zero, g0, c0, if_true]
    simp only [step]
    unfold dec
    split <;> simp only [c0, if_true]
  · have e2 : (b.toNat / 32 = 6 ∧ b.toNat / 16 ≠ 14 ∧ b.toNat / 8 ≠ 30) ∨ (b.toNat / 32 ≠ 6 ∧ b.toNat / 16 = 14 ∧ b.toNat / 8 ≠ 30) ∨ (b.toNat / 32 ≠ 6 ∧ b.toNat / 16 ≠ 14 ∧ b.toNat / 8 = 30) ∨ (b.toNat / 32 ≠ 6 ∧ b.toNat / 16 ≠ 14 ∧ b.toNat / 8 ≠ 30) := by omega
    match t, g1, g2, g3, s1, s2, s3 with
    | [], g1, g2, g3, s1, s2, s3 =>
      simp [Utf8.decode, g0, s1, s2, s3, step, tw, dec, Utf8.runeError, c0]
    | [c1], g1, g2, g3, s1, s2, s3 =>
      simp only [List.getD_cons_zero] at g1
      by_cases k1 : contB c1 = true
      all_goals
        have k1' := k1
        simp only [contB, beq_iff_eq] at k1'
        rcases e2 with ⟨h, h', h''⟩ | ⟨h, h', h''⟩ | ⟨h, h', h''⟩ | ⟨h, h', h''⟩
      all_goals simp [Utf8.decode, g0, g1, s1, s2, s3, step, tw, dec, Utf8.runeError, c0, k1, k1', h, h', h'']
    | [c1, c2], g1, g2, g3, s1, s2, s3 =>
      simp only [List.getD_cons_succ, List.getD_cons_zero] at g1 g2
      by_cases k1 : contB c1 = true
      all_goals
        have k1' := k1
        simp only [contB, beq_iff_eq] at k1'
      · by_cases k2 : contB c2 = true
        all_goals
          have k2' := k2
          simp only [contB, beq_iff_eq] at k2'
          rcases e2 with ⟨h, h', h''⟩ | ⟨h, h', h''⟩ | ⟨h, h', h''⟩ | ⟨h, h', h''⟩
        all_goals simp [Utf8.decode, g0, g1, g2, s1, s2, s3, step, tw, dec, Utf8.runeError, okC, c0, k1, k1', k2, k2', h, h', h'']
      · simp [Utf8.decode, g0, g1, g2, s1, s2, s3, step, tw, dec, Utf8.runeError, okC, c0, k1, k1']
    | c1 :: c2 :: c3 :: t, g1, g2, g3, s1, s2, s3 =>
      simp only [List.getD_cons_succ, List.getD_cons_zero] at g1 g2 g3
      have s1 : pos + 1 < (str l).size := s1.2 (by simp)
      have s2 : pos + 2 < (str l).size := s2.2 (by simp)
      have s3 : pos + 3 < (str l).size := s3.2 (by simp)
      by_cases k1 : contB c1 = true
      all_goals
        have k1' := k1
        simp only [contB, beq_iff_eq] at k1'
      · by_cases k2 : contB c2 = true
        all_goals
          have k2' := k2
          simp only [contB, beq_iff_eq] at k2'
        · by_cases k3 : contB c3 = true
          all_goals
            have k3' := k3
            simp only [contB, beq_iff_eq] at k3'
            rcases e2 with ⟨h, h', h''⟩ | ⟨h, h', h''⟩ | ⟨h, h', h''⟩ | ⟨h, h', h''⟩
          all_goals simp [Utf8.decode, g0, g1, g2, g3, s1, s2, s3, step, tw, dec, Utf8.runeError, okC, c0, k1, k1', k2, k2', k3, k3', h, h', h'']
        · rcases e2 with ⟨h, h', h''⟩ | ⟨h, h', h''⟩ | ⟨h, h', h''⟩ | ⟨h, h', h''⟩
          all_goals simp [Utf8.decode, g0, g1, g2, g3, s1, s2, s3, step, tw, dec, Utf8.runeError, okC, c0, k1, k1', k2, k2', h, h', h'']
      · simp [Utf8.decode, g0, g1, g2, g3, s1, s2, s3, step, tw, dec, Utf8.runeError, okC, c0, k1, k1']

theorem tw_len (l : List UInt8) : (tw l).length ≤ l.length := by
  induction l with
  | nil => simp [tw]
  | cons b l ih => simp only [tw]; cases contB b <;> simp [ih]
theorem dec_width (b : UInt8) (c : List UInt8) : 1 ≤ (dec b c).2 ∧ (dec b c).2 ≤ 1 + c.length := by
  match c with
  | [] => simp only [dec]; split <;> simp
  | [c1] => simp only [dec]; repeat' split
            all_goals simp
  | [c1, c2] => simp only [dec]; repeat' split
                all_goals simp
  | c1 :: c2 :: c3 :: c => simp only [dec]; repeat' split
                           all_goals simp <;> omega
theorem step_pos (l : List UInt8) : 1 ≤ (step l).2 := by
  cases l with
  | nil => simp [step]
  | cons b l => exact (dec_width _ _).1
theorem step_le (l : List UInt8) (h : l ≠ []) : (step l).2 ≤ l.length := by
  cases l with
  | nil => exact absurd rfl h
  | cons b l =>
    have h1 := (dec_width b (tw l)).2
    have h2 := tw_len l
    simp only [step, List.length_cons]
    omega

/-- The runes of a text, each with its own bytes, as far as a number of them goes. -/
def runesF : Nat → List UInt8 → List (Nat × List UInt8)
  | 0, _ => []
  | _ + 1, [] => []
  | f + 1, b :: l => ((step (b :: l)).1, (b :: l).take (step (b :: l)).2) :: runesF f ((b :: l).drop (step (b :: l)).2)
/-- The runes of a text, each with its own bytes. -/
def runes (l : List UInt8) : List (Nat × List UInt8) := runesF l.length l
theorem runesF_more (f g : Nat) (l : List UInt8) (hf : l.length ≤ f) (hg : l.length ≤ g) : runesF f l = runesF g l := by
  induction f generalizing g l with
  | zero =>
    have : l = [] := List.length_eq_zero_iff.1 (by omega)
    subst this
    cases g <;> rfl
  | succ f ih =>
    cases l with
    | nil => cases g <;> rfl
    | cons b l =>
      cases g with
      | zero => simp at hg
      | succ g =>
        simp only [runesF]
        rw [ih g]
        · have := step_pos (b :: l); simp only [List.length_drop, List.length_cons] at *; omega
        · have := step_pos (b :: l); simp only [List.length_drop, List.length_cons] at *; omega
theorem runes_nil : runes [] = [] := rfl
theorem runes_cons (l : List UInt8) (h : l ≠ []) : runes l = ((step l).1, l.take (step l).2) :: runes (l.drop (step l).2) := by
  cases l with
  | nil => exact absurd rfl h
  | cons b l =>
    show runesF (l.length + 1) (b :: l) = _
    simp only [runesF]
    rw [runes, runesF_more l.length ((b :: l).drop (step (b :: l)).2).length _ _ (Nat.le_refl _)]
    have := step_pos (b :: l); simp only [List.length_drop, List.length_cons] at *; omega
/-- The bytes of some runes, one behind the other. -/
def cat (P : List (Nat × List UInt8)) : List UInt8 := P.flatMap Prod.snd
theorem cat_nil : cat [] = [] := rfl
theorem cat_cons (p : Nat × List UInt8) (P : List (Nat × List UInt8)) : cat (p :: P) = p.2 ++ cat P := by simp [cat]
theorem cat_append (P Q : List (Nat × List UInt8)) : cat (P ++ Q) = cat P ++ cat Q := by simp [cat]
/-- An induction rune by rune. -/
theorem rune_ind {C : List UInt8 → Prop} (h0 : C []) (h1 : ∀ l, l ≠ [] → C (l.drop (step l).2) → C l) (l : List UInt8) : C l := by
  obtain ⟨n, hn⟩ : ∃ n, l.length ≤ n := ⟨_, Nat.le_refl _⟩
  induction n generalizing l with
  | zero => rw [List.length_eq_zero_iff.1 (by omega : l.length = 0)]; exact h0
  | succ n ih =>
    by_cases hl : l = []
    · rw [hl]; exact h0
    · refine h1 l hl (ih _ ?_)
      have := step_pos l
      have := List.length_pos_iff.2 hl
      rw [List.length_drop]; omega
theorem cat_runes (l : List UInt8) : cat (runes l) = l := by
  refine rune_ind (C := fun l => cat (runes l) = l) rfl (fun l h ih => ?_) l
  show cat (runes l) = l
  rw [runes_cons l h, cat_cons, ih]
  exact List.take_append_drop _ _
theorem runes_len (l : List UInt8) : (runes l).length ≤ l.length := by
  refine rune_ind (C := fun l => (runes l).length ≤ l.length) (by simp [runes_nil]) (fun l h ih => ?_) l
  show (runes l).length ≤ l.length
  rw [runes_cons l h, List.length_cons]
  have := step_pos l
  have := List.length_pos_iff.2 h
  rw [List.length_drop] at ih
  omega
theorem runes_ne (l : List UInt8) (h : l ≠ []) : runes l ≠ [] := by rw [runes_cons l h]; simp

/-- Behind k runes of a text the place pos. -/
def At (l : List UInt8) (k pos : Nat) : Prop := pos ≤ l.length ∧ k ≤ (runes l).length ∧ runes (l.drop pos) = (runes l).drop k ∧ cat ((runes l).take k) = l.take pos
theorem at_zero (l : List UInt8) : At l 0 0 := ⟨Nat.zero_le _, Nat.zero_le _, by simp, by simp [cat]⟩
theorem at_next {l : List UInt8} {k pos : Nat} (h : At l k pos) (hp : pos < l.length) :
    k < (runes l).length ∧ (runes l)[k]? = some ((step (l.drop pos)).1, (l.drop pos).take (step (l.drop pos)).2) ∧ At l (k + 1) (pos + (step (l.drop pos)).2) ∧ pos + (step (l.drop pos)).2 ≤ l.length := by
  obtain ⟨h1, h2, h3, h4⟩ := h
  have hne : l.drop pos ≠ [] := by intro e; have := congrArg List.length e; rw [List.length_drop] at this; simp at this; omega
  have hs := step_le (l.drop pos) hne
  rw [List.length_drop] at hs
  rw [runes_cons _ hne] at h3
  have hk : k < (runes l).length := by
    have := congrArg List.length h3
    simp only [List.length_cons, List.length_drop] at this
    omega
  have hg : (runes l)[k]? = some ((step (l.drop pos)).1, (l.drop pos).take (step (l.drop pos)).2) := by
    have := congrArg (fun x => x[0]?) h3
    simp only [List.getElem?_cons_zero, List.getElem?_drop, Nat.add_zero] at this
    exact this.symm
  refine ⟨hk, hg, ⟨by omega, hk, ?_, ?_⟩, by omega⟩
  · have := congrArg List.tail h3
    simp only [List.tail_cons, List.tail_drop] at this
    rw [List.drop_drop] at this
    exact this
  · rw [List.take_add_one, hg, cat_append, h4]
    simp only [Option.toList_some, cat_cons, cat_nil, List.append_nil]
    rw [List.take_add]
theorem at_end {l : List UInt8} {k pos : Nat} (h : At l k pos) (hp : ¬ pos < l.length) : pos = l.length ∧ k = (runes l).length := by
  obtain ⟨h1, h2, h3, h4⟩ := h
  refine ⟨by omega, ?_⟩
  rw [List.drop_eq_nil_of_le (by omega), runes_nil] at h3
  have := congrArg List.length h3
  simp only [List.length_nil, List.length_drop] at this
  omega
end Go.Proofs.Ytpfgmebajefjaaa
