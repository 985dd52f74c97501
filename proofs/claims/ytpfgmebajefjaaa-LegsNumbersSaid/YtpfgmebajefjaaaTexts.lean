/-
  Plain facts on texts and their runes, and the walk's round of a range over a text.
-/
import Derived.Test.YtpfgmebajefjaaaRunes
import Derived.Test.YtpfgmebajefjaaaShelf
import Derived.Lib.OthersKept
import Derived.Laws.Externs
import Derived.Lib.Hide
namespace Go.Proofs.Ytpfgmebajefjaaa
open Go.RowKit
set_option linter.unusedVariables false
set_option linter.unusedSimpArgs false

/-- A round of a range over a text: the rune at hand, its width, and the next place. -/
theorem at_step {l : List UInt8} {k pos : Nat} (h : At l k pos) (hp : pos < l.length) : ∃ r d : Nat,
    (∀ (w : World) (ty : TypeId), (Instr.next (.pointer (some ⟨w.heap.size, 0, none⟩)) true ty).run Try.prog (w.iter (str l) pos) = .ok (.tuple #[.bool true, .int .i64 pos, .int .i32 r]) (w.iter (str l) (pos + d))) ∧
    (∀ (w : World) (b : Nat) (ty : TypeId), w.heap[b]? = some (.stringIter (str l) pos) → (Instr.next (.pointer (some ⟨b, 0, none⟩)) true ty).run Try.prog w = .ok (.tuple #[.bool true, .int .i64 pos, .int .i32 r]) (w.iterAt b (str l) (pos + d))) ∧
    1 ≤ d ∧ pos + d ≤ l.length ∧ k < (runes l).length ∧ (runes l)[k]? = some (r, (l.drop pos).take d) ∧ At l (k + 1) (pos + d) ∧ r ≤ 2147483647 := by
  obtain ⟨h1, h2, h3, h4⟩ := at_next h hp
  have hd := decode_str l pos hp
  have hs : pos < (str l).size := hp
  refine ⟨(step (l.drop pos)).1, (step (l.drop pos)).2, ?_, ?_, step_pos _, h4, h1, h2, h3, ?_⟩
  · intro w ty
    rw [run_next_any w (str l) pos ty hs, hd]
  · intro w b ty hb
    rw [Lib.run_next_any_at w b (str l) pos ty hb hs, hd]
  · rw [← hd]; exact decode_le _ _
theorem at_stop {l : List UInt8} {pos : Nat} (hp : ¬ pos < l.length) :
    (∀ (w : World) (ty : TypeId), (Instr.next (.pointer (some ⟨w.heap.size, 0, none⟩)) true ty).run Try.prog (w.iter (str l) pos) = .ok (.tuple #[.bool false]) (w.iter (str l) pos)) ∧
    (∀ (w : World) (b : Nat) (ty : TypeId), w.heap[b]? = some (.stringIter (str l) pos) → (Instr.next (.pointer (some ⟨b, 0, none⟩)) true ty).run Try.prog w = .ok (.tuple #[.bool false]) w) := by
  have hs : ¬ pos < (str l).size := hp
  exact ⟨fun w ty => run_next_end w (str l) pos ty hs, fun w b ty hb => Lib.run_next_end_at w b (str l) pos ty hb hs⟩
/-- The length of a text that the walk may see. -/
theorem fits {l : List UInt8} (h : l.length ≤ 140737488355328) : (runes l).length ≤ 140737488355328 := Nat.le_trans (runes_len l) h
theorem below_iter (w : World) (s : ByteArray) (pos : Nat) : Below w.heap.size w (w.iter s pos) := (Below.refl _ w).alloc (Nat.le_refl _) _
theorem ret_i {a b : Int} (h : a = b) : Ending.returned (.int .i64 a) = .returned (.int .i64 b) := by rw [h]
theorem ret_b {a b : Bool} (h : a = b) : Ending.returned (.bool a) = .returned (.bool b) := by rw [h]
theorem ret_s {a b : List UInt8} (h : a = b) : Ending.returned (.string (str a)) = .returned (.string (str b)) := by rw [h]
/-- The first n runes of a text. -/
def cutL (l : List UInt8) (n : Int) : List UInt8 := cat ((runes l).take n.toNat)
theorem cutL_le (l : List UInt8) (n : Int) : (cutL l n).length ≤ l.length := by
  have h : l = cat ((runes l).take n.toNat) ++ cat ((runes l).drop n.toNat) := by rw [← cat_append, List.take_append_drop, cat_runes]
  have := congrArg List.length h
  rw [List.length_append] at this
  unfold cutL; omega
theorem cut_stop {l : List UInt8} {k pos : Nat} {n : Int} (h : At l k pos) (h1 : n ≤ k) (h2 : ∀ j : Nat, j < k → (j : Int) < n) : l.take pos = cutL l n := by
  obtain ⟨_, _, _, h4⟩ := h
  unfold cutL
  rw [← h4]
  by_cases hk : k = 0
  · subst hk; rw [show n.toNat = 0 by omega]
  · have := h2 (k - 1) (by omega)
    rw [show n.toNat = k by omega]
theorem cut_all {l : List UInt8} {n : Int} (h : ∀ j : Nat, j < (runes l).length → (j : Int) < n) : l = cutL l n := by
  unfold cutL
  by_cases h0 : (runes l).length = 0
  · rw [List.take_of_length_le (by omega), cat_runes]
  · have := h ((runes l).length - 1) (by omega)
    rw [List.take_of_length_le (by omega), cat_runes]
theorem ext_str (l : List UInt8) (a b : Nat) : (str l).extract a b = str ((l.drop a).take (b - a)) := ByteArray.extract_mk l a b
theorem ext_to (l : List UInt8) (b : Nat) : (str l).extract 0 b = str (l.take b) := by rw [ext_str]; simp
theorem cutL_neg (l : List UInt8) {n : Int} (h : n ≤ 0) : cutL l n = [] := by
  unfold cutL; rw [show n.toNat = 0 by omega]; rfl
theorem at_len (l : List UInt8) : At l (runes l).length l.length := ⟨Nat.le_refl _, Nat.le_refl _, by simp [runes_nil], by rw [List.take_length, List.take_length, cat_runes]⟩
theorem ext_from (l : List UInt8) (a b : Nat) (h : b ≤ l.length) : (str l).extract a b = str ((l.take b).drop a) := by
  rw [ext_str, List.drop_take]
theorem dec_len (b : UInt8) (c : List UInt8) : ((dec b c).1 < 128 → (dec b c).2 = 1) ∧ (128 ≤ (dec b c).1 → (dec b c).1 < 2048 → (dec b c).2 = 2) := by
  match c with
  | [] => simp only [dec]; repeat' split
          all_goals simp <;> omega
  | [c1] => simp only [dec]; repeat' split
            all_goals simp <;> omega
  | [c1, c2] => simp only [dec]; repeat' split
                all_goals simp <;> omega
  | c1 :: c2 :: c3 :: c => simp only [dec]; repeat' split
                           all_goals simp <;> omega
theorem step_len (l : List UInt8) : ((step l).1 < 128 → (step l).2 = 1) ∧ (128 ≤ (step l).1 → (step l).1 < 2048 → (step l).2 = 2) := by
  cases l with
  | nil => simp [step]
  | cons b l => exact dec_len _ _
theorem rune_len (l : List UInt8) : ∀ p ∈ runes l, (p.1 < 128 → p.2.length = 1) ∧ (128 ≤ p.1 → p.1 < 2048 → p.2.length = 2) := by
  refine rune_ind (C := fun l => ∀ p ∈ runes l, (p.1 < 128 → p.2.length = 1) ∧ (128 ≤ p.1 → p.1 < 2048 → p.2.length = 2)) (by simp [runes_nil]) (fun l h ih => ?_) l
  show ∀ p ∈ runes l, _
  intro p hp
  rw [runes_cons l h, List.mem_cons] at hp
  rcases hp with rfl | hp
  · have h1 := step_len l
    have h2 := step_le l h
    simp only [List.length_take, Nat.min_eq_left h2]
    exact h1
  · exact ih p hp
/-- The bytes of a rune below 2048. -/
def enc (r : Nat) : List UInt8 := if r < 128 then [UInt8.ofNat r] else [UInt8.ofNat (192 + r / 64), UInt8.ofNat (128 + r % 64)]
theorem enc_one {r : Nat} (h : r < 128) : (enc r).length = 1 := by unfold enc; rw [if_pos h]; rfl
theorem enc_two {r : Nat} (h : 128 ≤ r) : (enc r).length = 2 := by unfold enc; rw [if_neg (by omega)]; rfl
theorem tw_cons_yes {b : UInt8} {l : List UInt8} (h : contB b = true) : tw (b :: l) = b :: tw l := by simp only [tw, h, cond_true]
theorem tw_cons_no {b : UInt8} {l : List UInt8} (h : contB b = false) : tw (b :: l) = [] := by simp only [tw, h, cond_false]
theorem tw_append (a b : List UInt8) (h : tw b = []) : tw (a ++ b) = tw a := by
  induction a with
  | nil => exact h
  | cons x a ih =>
    rw [List.cons_append]
    cases hx : contB x
    · rw [tw_cons_no hx, tw_cons_no hx]
    · rw [tw_cons_yes hx, tw_cons_yes hx, ih]
theorem tw_congr (a : List UInt8) {b c : List UInt8} (h : tw b = tw c) : tw (a ++ b) = tw (a ++ c) := by
  induction a with
  | nil => exact h
  | cons x a ih =>
    rw [List.cons_append, List.cons_append]
    cases hx : contB x
    · rw [tw_cons_no hx, tw_cons_no hx]
    · rw [tw_cons_yes hx, tw_cons_yes hx, ih]
theorem tw_take (t : List UInt8) (k : Nat) : tw (t.take k) = (tw t).take k := by
  induction t generalizing k with
  | nil => simp [tw]
  | cons x t ih =>
    cases k with
    | zero => simp [tw]
    | succ k =>
      rw [List.take_succ_cons]
      cases hx : contB x
      · rw [tw_cons_no hx, tw_cons_no hx]; rfl
      · rw [tw_cons_yes hx, tw_cons_yes hx, ih, List.take_succ_cons]
theorem tw_split (t : List UInt8) : ∃ z, t = tw t ++ z := by
  induction t with
  | nil => exact ⟨[], rfl⟩
  | cons x t ih =>
    cases hx : contB x
    · exact ⟨x :: t, by rw [tw_cons_no hx]; rfl⟩
    · obtain ⟨z, hz⟩ := ih
      exact ⟨z, by rw [tw_cons_yes hx, List.cons_append, ← hz]⟩
theorem tw_all (t : List UInt8) : ∀ b ∈ tw t, contB b = true := by
  induction t with
  | nil => simp [tw]
  | cons x t ih =>
    cases hx : contB x
    · rw [tw_cons_no hx]; simp
    · rw [tw_cons_yes hx]
      intro b hb
      rcases List.mem_cons.1 hb with rfl | hb
      · exact hx
      · exact ih b hb
theorem tw_of_all (a z : List UInt8) (h : ∀ b ∈ a, contB b = true) : tw (a ++ z) = a ++ tw z := by
  induction a with
  | nil => rfl
  | cons x a ih =>
    rw [List.cons_append, tw_cons_yes (h x List.mem_cons_self), ih (fun b hb => h b (List.mem_cons_of_mem _ hb)), List.cons_append]
theorem dec_cont {b : UInt8} (h : contB b = true) (c : List UInt8) : dec b c = (65533, 1) := by
  have hb : b.toNat / 64 = 2 := by simpa [contB] using h
  have h1 : ¬ b.toNat < 128 := by omega
  have h2 : ¬ b.toNat / 32 = 6 := by omega
  have h3 : ¬ b.toNat / 16 = 14 := by omega
  have h4 : ¬ b.toNat / 8 = 30 := by omega
  unfold dec
  split <;> simp [h1, h2, h3, h4]
theorem dec_two {b c1 : UInt8} (h0 : ¬ b.toNat < 128) (hc : b.toNat / 32 = 6 ∧ 128 ≤ b.toNat % 32 * 64 + c1.toNat % 64) (y : List UInt8) : dec b (c1 :: y) = (b.toNat % 32 * 64 + c1.toNat % 64, 2) := by
  match y with
  | [] => simp [dec, h0, hc]
  | [c2] => simp [dec, h0, hc]
  | c2 :: c3 :: y => simp [dec, h0, hc]
theorem dec_three {b c1 c2 : UInt8} (h0 : ¬ b.toNat < 128)
    (hd : b.toNat / 16 = 14 ∧ 2048 ≤ b.toNat % 16 * 4096 + c1.toNat % 64 * 64 + c2.toNat % 64 ∧ okC (b.toNat % 16 * 4096 + c1.toNat % 64 * 64 + c2.toNat % 64) = true) (y : List UInt8) :
    dec b (c1 :: c2 :: y) = (b.toNat % 16 * 4096 + c1.toNat % 64 * 64 + c2.toNat % 64, 3) := by
  have : ¬ b.toNat / 32 = 6 := by omega
  match y with
  | [] => simp [dec, h0, hd, this]
  | c3 :: y => simp [dec, h0, hd, this]
/-- What a byte with those behind it is. -/
theorem dec_ways (b : UInt8) (c : List UInt8) :
    (∀ y, dec b y = (b.toNat, 1)) ∨
    (∃ c1 c' r, c = c1 :: c' ∧ ∀ y, dec b (c1 :: y) = (r, 2)) ∨
    (∃ c1 c2 c' r, c = c1 :: c2 :: c' ∧ ∀ y, dec b (c1 :: c2 :: y) = (r, 3)) ∨
    (∃ c1 c2 c3 c' r, c = c1 :: c2 :: c3 :: c' ∧ ∀ y, dec b (c1 :: c2 :: c3 :: y) = (r, 4)) ∨
    (∀ k, dec b (c.take k) = (65533, 1)) := by
  by_cases h0 : b.toNat < 128
  · refine .inl fun y => ?_
    unfold dec; split <;> simp [h0]
  · match c with
    | [] => exact .inr (.inr (.inr (.inr fun k => by simp [dec, h0])))
    | [c1] =>
      by_cases hc : b.toNat / 32 = 6 ∧ 128 ≤ b.toNat % 32 * 64 + c1.toNat % 64
      · exact .inr (.inl ⟨c1, [], _, rfl, dec_two h0 hc⟩)
      · refine .inr (.inr (.inr (.inr fun k => ?_)))
        match k with
        | 0 => simp [dec, h0]
        | k + 1 => simp [dec, h0, hc]
    | [c1, c2] =>
      by_cases hc : b.toNat / 32 = 6 ∧ 128 ≤ b.toNat % 32 * 64 + c1.toNat % 64
      · exact .inr (.inl ⟨c1, [c2], _, rfl, dec_two h0 hc⟩)
      · by_cases hd : b.toNat / 16 = 14 ∧ 2048 ≤ b.toNat % 16 * 4096 + c1.toNat % 64 * 64 + c2.toNat % 64 ∧ okC (b.toNat % 16 * 4096 + c1.toNat % 64 * 64 + c2.toNat % 64) = true
        · exact .inr (.inr (.inl ⟨c1, c2, [], _, rfl, dec_three h0 hd⟩))
        · refine .inr (.inr (.inr (.inr fun k => ?_)))
          match k with
          | 0 => simp [dec, h0]
          | 1 => simp [dec, h0, hc]
          | k + 2 => simp [dec, h0, hc, hd]
    | c1 :: c2 :: c3 :: c =>
      by_cases hc : b.toNat / 32 = 6 ∧ 128 ≤ b.toNat % 32 * 64 + c1.toNat % 64
      · exact .inr (.inl ⟨c1, c2 :: c3 :: c, _, rfl, dec_two h0 hc⟩)
      · by_cases hd : b.toNat / 16 = 14 ∧ 2048 ≤ b.toNat % 16 * 4096 + c1.toNat % 64 * 64 + c2.toNat % 64 ∧ okC (b.toNat % 16 * 4096 + c1.toNat % 64 * 64 + c2.toNat % 64) = true
        · exact .inr (.inr (.inl ⟨c1, c2, c3 :: c, _, rfl, dec_three h0 hd⟩))
        · by_cases he : b.toNat / 8 = 30 ∧ 65536 ≤ b.toNat % 8 * 262144 + c1.toNat % 64 * 4096 + c2.toNat % 64 * 64 + c3.toNat % 64 ∧ okC (b.toNat % 8 * 262144 + c1.toNat % 64 * 4096 + c2.toNat % 64 * 64 + c3.toNat % 64) = true
          · exact .inr (.inr (.inr (.inl ⟨c1, c2, c3, c, _, rfl, fun y => by rw [dec, if_neg h0, if_neg hc, if_neg hd, if_pos he]⟩)))
          · refine .inr (.inr (.inr (.inr fun k => ?_)))
            match k with
            | 0 => simp [dec, h0]
            | 1 => simp [dec, h0, hc]
            | 2 => simp [dec, h0, hc, hd]
            | k + 3 => simp [dec, h0, hc, hd, he]
theorem dec_take (b : UInt8) (c : List UInt8) (k : Nat) (h : (dec b c).2 ≤ k + 1) : dec b (c.take k) = dec b c := by
  rcases dec_ways b c with h1 | ⟨c1, c', r, rfl, h1⟩ | ⟨c1, c2, c', r, rfl, h1⟩ | ⟨c1, c2, c3, c', r, rfl, h1⟩ | h1
  · rw [h1, h1]
  · rw [h1] at h ⊢
    match k, h with
    | k + 1, _ => rw [List.take_succ_cons, h1]
  · rw [h1] at h ⊢
    match k, h with
    | k + 2, _ => rw [List.take_succ_cons, List.take_succ_cons, h1]
  · rw [h1] at h ⊢
    match k, h with
    | k + 3, _ => rw [List.take_succ_cons, List.take_succ_cons, List.take_succ_cons, h1]
  · have := h1 c.length
    rw [List.take_length] at this
    rw [h1, this]
theorem dec_solid (b : UInt8) (c : List UInt8) (h : (dec b c).1 ≠ 65533) (z : List UInt8) : dec b (c.take ((dec b c).2 - 1) ++ z) = dec b c := by
  rcases dec_ways b c with h1 | ⟨c1, c', r, rfl, h1⟩ | ⟨c1, c2, c', r, rfl, h1⟩ | ⟨c1, c2, c3, c', r, rfl, h1⟩ | h1
  · rw [h1, h1]
  · rw [h1]; exact h1 z
  · rw [h1]; exact h1 z
  · rw [h1]; exact h1 z
  · have := h1 c.length
    rw [List.take_length] at this
    rw [this] at h
    exact absurd rfl h
theorem step_cons (b : UInt8) (t : List UInt8) : step (b :: t) = dec b (tw t) := rfl
theorem step_append (a b : List UInt8) (ha : a ≠ []) (h : tw b = []) : step (a ++ b) = step a := by
  cases a with
  | nil => exact absurd rfl ha
  | cons x a => rw [List.cons_append, step_cons, step_cons, tw_append a b h]
theorem runes_append (a b : List UInt8) (h : tw b = []) : runes (a ++ b) = runes a ++ runes b := by
  refine rune_ind (C := fun a => runes (a ++ b) = runes a ++ runes b) rfl (fun a ha ih => ?_) a
  show runes (a ++ b) = _
  have hs := step_append a b ha h
  have hle := step_le a ha
  rw [runes_cons a ha, runes_cons (a ++ b) (by simp [ha]), hs, List.take_append_of_le_length hle, List.drop_append_of_le_length hle, List.cons_append]
  rw [ih]
theorem step_take (l : List UInt8) (hl : l ≠ []) (k : Nat) (h : (step l).2 ≤ k) : step (l.take k) = step l := by
  cases l with
  | nil => exact absurd rfl hl
  | cons b t =>
    cases k with
    | zero => have := step_pos (b :: t); omega
    | succ k =>
      rw [List.take_succ_cons, step_cons, step_cons, tw_take, dec_take]
      exact h
theorem cat_take (l : List UInt8) (n : Nat) : cat ((runes l).take n) = l.take (cat ((runes l).take n)).length := by
  have h : cat ((runes l).take n) ++ cat ((runes l).drop n) = l := by rw [← cat_append, List.take_append_drop, cat_runes]
  have := congrArg (List.take (cat ((runes l).take n)).length) h
  rw [List.take_left'] at this
  · exact this
  · rfl
theorem runes_cut (l : List UInt8) : ∀ n, runes (cat ((runes l).take n)) = (runes l).take n := by
  refine rune_ind (C := fun l => ∀ n, runes (cat ((runes l).take n)) = (runes l).take n) (fun n => by simp [runes_nil, cat_nil]) (fun l hl ih => ?_) l
  show ∀ n, runes (cat ((runes l).take n)) = (runes l).take n
  intro n
  cases n with
  | zero => simp [cat_nil, runes_nil]
  | succ n =>
    have hle := step_le l hl
    have hpos := step_pos l
    obtain ⟨y, hy⟩ : ∃ y, cat ((runes (l.drop (step l).2)).take n) = y := ⟨_, rfl⟩
    have hy2 : y = (l.drop (step l).2).take y.length := by have := cat_take (l.drop (step l).2) n; rw [hy] at this; exact this
    have e1 : cat ((runes l).take (n + 1)) = l.take ((step l).2 + y.length) := by
      rw [runes_cons l hl, List.take_succ_cons, cat_cons, hy, List.take_add, ← hy2]
    have hne : l.take ((step l).2 + y.length) ≠ [] := by
      intro e
      have := congrArg List.length e
      have := List.length_pos_iff.2 hl
      simp only [List.length_take, List.length_nil] at *
      omega
    have hs := step_take l hl ((step l).2 + y.length) (by omega)
    have ih := ih n
    rw [hy] at ih
    rw [e1, runes_cons _ hne, hs, runes_cons l hl, List.take_succ_cons, List.take_take, Nat.min_eq_left (by omega), List.drop_take, Nat.add_sub_cancel_left, ← hy2, ih]
theorem runes_cutL (l : List UInt8) (n : Int) : runes (cutL l n) = (runes l).take n.toNat := runes_cut l _
theorem cutL_cutL (l : List UInt8) (n m : Int) (hn : 0 ≤ n) (hm : 0 ≤ m) : cutL (cutL l n) m = cutL l (min n m) := by
  unfold cutL
  rw [runes_cut, List.take_take]
  congr 2
  omega
theorem cutL_all (l : List UInt8) (n : Int) (h : ((runes l).length : Int) ≤ n) : cutL l n = l := by
  unfold cutL
  rw [List.take_of_length_le (by omega), cat_runes]
theorem piece_ne (l : List UInt8) : ∀ p ∈ runes l, p.2 ≠ [] := by
  refine rune_ind (C := fun l => ∀ p ∈ runes l, p.2 ≠ []) (by simp [runes_nil]) (fun l hl ih => ?_) l
  show ∀ p ∈ runes l, p.2 ≠ []
  intro p hp
  rw [runes_cons l hl] at hp
  rcases List.mem_cons.1 hp with rfl | hp
  · intro e
    have := congrArg List.length e
    have := step_pos l
    have := List.length_pos_iff.2 hl
    simp only [List.length_take, List.length_nil] at *
    omega
  · exact ih p hp
theorem cutL_next (l : List UInt8) (i : Nat) (h : i < (runes l).length) : ∃ x, x ≠ [] ∧ cutL l ((i : Int) + 1) = cutL l i ++ x := by
  refine ⟨((runes l)[i]).2, piece_ne l _ (List.getElem_mem h), ?_⟩
  unfold cutL
  rw [show ((i : Int) + 1).toNat = i + 1 by omega, show ((i : Int)).toNat = i by omega, List.take_add_one, List.getElem?_eq_getElem h, cat_append]
  simp [cat_cons, cat_nil]
theorem tw_enc {r : Nat} (h : r < 2048) (z : List UInt8) : tw (enc r ++ z) = [] := by
  unfold enc
  split
  · rename_i h1
    refine tw_cons_no ?_
    simp [contB]; omega
  · refine tw_cons_no ?_
    simp [contB]; omega
theorem step_enc {r : Nat} (h : r < 2048) (z : List UInt8) : step (enc r ++ z) = (r, (enc r).length) := by
  unfold enc
  split
  · rename_i h1
    rw [List.singleton_append, step_cons]
    have e : (UInt8.ofNat r).toNat = r := by simp; omega
    have : (UInt8.ofNat r).toNat < 128 := by omega
    unfold dec
    split <;> simp only [e, h1, if_true] <;> rfl
  · rename_i h1
    have e1 : (UInt8.ofNat (192 + r / 64)).toNat = 192 + r / 64 := by simp; omega
    have e2 : (UInt8.ofNat (128 + r % 64)).toNat = 128 + r % 64 := by simp; omega
    show step (UInt8.ofNat (192 + r / 64) :: (UInt8.ofNat (128 + r % 64) :: z)) = _
    rw [step_cons, tw_cons_yes (by simp [contB]; omega), dec_two (by rw [e1]; omega) (by rw [e1, e2]; omega), e1, e2]
    simp; omega
/-- A rune that reads as itself whatever follows. -/
def Solid (p : Nat × List UInt8) : Prop := p.2 ≠ [] ∧ ∀ z, step (p.2 ++ z) = (p.1, p.2.length)
theorem runes_solid (P : List (Nat × List UInt8)) (h : ∀ p ∈ P, Solid p) (z : List UInt8) : runes (cat P ++ z) = P ++ runes z := by
  induction P with
  | nil => rfl
  | cons p P ih =>
    obtain ⟨hne, hs⟩ := h p List.mem_cons_self
    have ih := ih (fun q hq => h q (List.mem_cons_of_mem _ hq))
    have e : cat (p :: P) ++ z = p.2 ++ (cat P ++ z) := by rw [cat_cons, List.append_assoc]
    rw [e, runes_cons _ (by simp [hne]), hs]
    rw [List.take_left' rfl, List.drop_left' rfl, ih, List.cons_append]
theorem runes_solid' (P : List (Nat × List UInt8)) (h : ∀ p ∈ P, Solid p) : runes (cat P) = P := by
  have := runes_solid P h []
  rw [List.append_nil, runes_nil, List.append_nil] at this
  exact this
theorem solid_step {l : List UInt8} (hl : l ≠ []) (h : (step l).1 ≠ 65533) : Solid ((step l).1, l.take (step l).2) := by
  have hle := step_le l hl
  have hpos := step_pos l
  refine ⟨?_, fun z => ?_⟩
  · intro e
    have := congrArg List.length e
    have := List.length_pos_iff.2 hl
    simp only [List.length_take, List.length_nil] at *
    omega
  · simp only [List.length_take, Nat.min_eq_left hle]
    cases l with
    | nil => exact absurd rfl hl
    | cons b t =>
      obtain ⟨d, hd⟩ : ∃ d, (step (b :: t)).2 = d + 1 := ⟨(step (b :: t)).2 - 1, by omega⟩
      rw [hd, List.take_succ_cons, List.cons_append, step_cons]
      have hw := (dec_width b (tw t)).2
      rw [← step_cons, hd] at hw
      obtain ⟨y, hy⟩ := tw_split t
      have ht : t.take d = (tw t).take d := by
        have := congrArg (List.take d) hy
        rw [List.take_append_of_le_length (by omega)] at this
        exact this
      rw [ht, tw_of_all _ z (fun c hc => tw_all t c (List.mem_of_mem_take hc))]
      rw [step_cons] at h hd
      have := dec_solid b (tw t) h (tw z)
      rw [hd, Nat.add_sub_cancel] at this
      rw [this, step_cons, ← hd]
theorem solid_of (l : List UInt8) : ∀ p ∈ runes l, p.1 ≠ 65533 → Solid p := by
  refine rune_ind (C := fun l => ∀ p ∈ runes l, p.1 ≠ 65533 → Solid p) (by simp [runes_nil]) (fun l hl ih => ?_) l
  show ∀ p ∈ runes l, p.1 ≠ 65533 → Solid p
  intro p hp h
  rw [runes_cons l hl] at hp
  rcases List.mem_cons.1 hp with rfl | hp
  · exact solid_step hl h
  · exact ih p hp h
theorem cutL_start (l : List UInt8) (n : Int) : l.take (cutL l n).length = cutL l n := (cat_take l n.toNat).symm
theorem take_len (l : List UInt8) (n : Nat) : (l.take n).length ≤ n := by rw [List.length_take]; omega
end Go.Proofs.Ytpfgmebajefjaaa
