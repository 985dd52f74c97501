/-
  Plain facts on the runes of texts that are joined, cut, folded, turned and filled up. No program is named here.
-/
import Derived.Test.YtkgjnapkpbagnaaFoldPlain
import Derived.Test.YtkgjnapkpbagnaaPad
namespace Go.Proofs.Ytkgjnapkpbagnaa
open Go.RowKit
set_option linter.unusedVariables false
set_option linter.unusedSimpArgs false

theorem tw_cons_yes {b : UInt8} {l : List UInt8} (h : contB b = true) : tw (b :: l) = b :: tw l := by simp only [tw, h, cond_true]
theorem tw_cons_no {b : UInt8} {l : List UInt8} (h : contB b = false) : tw (b :: l) = [] := by simp only [tw, h, cond_false]
theorem tw_append (a b : List UInt8) (h : tw b = []) : tw (a ++ b) = tw a := by
  induction a with
  | nil => exact h
  | cons x a ih =>
    rw [List.cons_append]
    cases hx : contB x
    · rw [tw_cons_no hx, tw_cons_no hx]
    · rw [tw_cons_yes hx, tw_cons_yes hx, ih]
theorem tw_congr (a : List UInt8) {b c : List UInt8} (h : tw b = tw c) : tw (a ++ b) = tw (a ++ c) := by
  induction a with
  | nil => exact h
  | cons x a ih =>
    rw [List.cons_append, List.cons_append]
    cases hx : contB x
    · rw [tw_cons_no hx, tw_cons_no hx]
    · rw [tw_cons_yes hx, tw_cons_yes hx, ih]
theorem tw_take (t : List UInt8) (k : Nat) : tw (t.take k) = (tw t).take k := by
  induction t generalizing k with
  | nil => simp [tw]
  | cons x t ih =>
    cases k with
    | zero => simp [tw]
    | succ k =>
      rw [List.take_succ_cons]
      cases hx : contB x
      · rw [tw_cons_no hx, tw_cons_no hx]; rfl
      · rw [tw_cons_yes hx, tw_cons_yes hx, ih, List.take_succ_cons]
theorem tw_split (t : List UInt8) : ∃ z, t = tw t ++ z := by
  induction t with
  | nil => exact ⟨[], rfl⟩
  | cons x t ih =>
    cases hx : contB x
    · exact ⟨x :: t, by rw [tw_cons_no hx]; rfl⟩
    · obtain ⟨z, hz⟩ := ih
      exact ⟨z, by rw [tw_cons_yes hx, List.cons_append, ← hz]⟩
theorem tw_all (t : List UInt8) : ∀ b ∈ tw t, contB b = true := by
  induction t with
  | nil => simp [tw]
  | cons x t ih =>
    cases hx : contB x
    · rw [tw_cons_no hx]; simp
    · rw [tw_cons_yes hx]
      intro b hb
      rcases List.mem_cons.1 hb with rfl | hb
      · exact hx
      · exact ih b hb
theorem tw_of_all (a z : List UInt8) (h : ∀ b ∈ a, contB b = true) : tw (a ++ z) = a ++ tw z := by
  induction a with
  | nil => rfl
  | cons x a ih =>
    rw [List.cons_append, tw_cons_yes (h x List.mem_cons_self), ih (fun b hb => h b (List.mem_cons_of_mem _ hb)), List.cons_append]

theorem dec_cont {b : UInt8} (h : contB b = true) (c : List UInt8) : dec b c = (65533, 1) := by
  have hb : b.toNat / 64 = 2 := by simpa [contB] using h
  have h1 : ¬ b.toNat < 128 := by omega
  have h2 : ¬ b.toNat / 32 = 6 := by omega
  have h3 : ¬ b.toNat / 16 = 14 := by omega
  have h4 : ¬ b.toNat / 8 = 30 := by omega
  unfold dec
  split <;> simp [h1, h2, h3, h4]

theorem dec_two {b c1 : UInt8} (h0 : ¬ b.toNat < 128) (hc : b.toNat / 32 = 6 ∧ 128 ≤ b.toNat % 32 * 64 + c1.toNat % 64) (y : List UInt8) : dec b (c1 :: y) = (b.toNat % 32 * 64 + c1.toNat % 64, 2) := by
  match y with
  | [] => simp [dec, h0, hc]
  | [c2] => simp [dec, h0, hc]
  | c2 :: c3 :: y => simp [dec, h0, hc]
theorem dec_three {b c1 c2 : UInt8} (h0 : ¬ b.toNat < 128)
    (hd : b.toNat / 16 = 14 ∧ 2048 ≤ b.toNat % 16 * 4096 + c1.toNat % 64 * 64 + c2.toNat % 64 ∧ okC (b.toNat % 16 * 4096 + c1.toNat % 64 * 64 + c2.toNat % 64) = true) (y : List UInt8) :
    dec b (c1 :: c2 :: y) = (b.toNat % 16 * 4096 + c1.toNat % 64 * 64 + c2.toNat % 64, 3) := by
  have : ¬ b.toNat / 32 = 6 := by omega
  match y with
  | [] => simp [dec, h0, hd, this]
  | c3 :: y => simp [dec, h0, hd, this]
/-- What a byte with those behind it is. -/
theorem dec_ways (b : UInt8) (c : List UInt8) :
    (∀ y, dec b y = (b.toNat, 1)) ∨
    (∃ c1 c' r, c = c1 :: c' ∧ ∀ y, dec b (c1 :: y) = (r, 2)) ∨
    (∃ c1 c2 c' r, c = c1 :: c2 :: c' ∧ ∀ y, dec b (c1 :: c2 :: y) = (r, 3)) ∨
    (∃ c1 c2 c3 c' r, c = c1 :: c2 :: c3 :: c' ∧ ∀ y, dec b (c1 :: c2 :: c3 :: y) = (r, 4)) ∨
    (∀ k, dec b (c.take k) = (65533, 1)) := by
  by_cases h0 : b.toNat < 128
  · refine .inl fun y => ?_
    unfold dec; split <;> simp [h0]
  · match c with
    | [] => exact .inr (.inr (.inr (.inr fun k => by simp [dec, h0])))
    | [c1] =>
      by_cases hc : b.toNat / 32 = 6 ∧ 128 ≤ b.toNat % 32 * 64 + c1.toNat % 64
      · exact .inr (.inl ⟨c1, [], _, rfl, dec_two h0 hc⟩)
      · refine .inr (.inr (.inr (.inr fun k => ?_)))
        match k with
        | 0 => simp [dec, h0]
        | k + 1 => simp [dec, h0, hc]
    | [c1, c2] =>
      by_cases hc : b.toNat / 32 = 6 ∧ 128 ≤ b.toNat % 32 * 64 + c1.toNat % 64
      · exact .inr (.inl ⟨c1, [c2], _, rfl, dec_two h0 hc⟩)
      · by_cases hd : b.toNat / 16 = 14 ∧ 2048 ≤ b.toNat % 16 * 4096 + c1.toNat % 64 * 64 + c2.toNat % 64 ∧ okC (b.toNat % 16 * 4096 + c1.toNat % 64 * 64 + c2.toNat % 64) = true
        · exact .inr (.inr (.inl ⟨c1, c2, [], _, rfl, dec_three h0 hd⟩))
        · refine .inr (.inr (.inr (.inr fun k => ?_)))
          match k with
          | 0 => simp [dec, h0]
          | 1 => simp [dec, h0, hc]
          | k + 2 => simp [dec, h0, hc, hd]
    | c1 :: c2 :: c3 :: c =>
      by_cases hc : b.toNat / 32 = 6 ∧ 128 ≤ b.toNat % 32 * 64 + c1.toNat % 64
      · exact .inr (.inl ⟨c1, c2 :: c3 :: c, _, rfl, dec_two h0 hc⟩)
      · by_cases hd : b.toNat / 16 = 14 ∧ 2048 ≤ b.toNat % 16 * 4096 + c1.toNat % 64 * 64 + c2.toNat % 64 ∧ okC (b.toNat % 16 * 4096 + c1.toNat % 64 * 64 + c2.toNat % 64) = true
        · exact .inr (.inr (.inl ⟨c1, c2, c3 :: c, _, rfl, dec_three h0 hd⟩))
        · by_cases he : b.toNat / 8 = 30 ∧ 65536 ≤ b.toNat % 8 * 262144 + c1.toNat % 64 * 4096 + c2.toNat % 64 * 64 + c3.toNat % 64 ∧ okC (b.toNat % 8 * 262144 + c1.toNat % 64 * 4096 + c2.toNat % 64 * 64 + c3.toNat % 64) = true
          · exact .inr (.inr (.inr (.inl ⟨c1, c2, c3, c, _, rfl, fun y => by rw [dec, if_neg h0, if_neg hc, if_neg hd, if_pos he]⟩)))
          · refine .inr (.inr (.inr (.inr fun k => ?_)))
            match k with
            | 0 => simp [dec, h0]
            | 1 => simp [dec, h0, hc]
            | 2 => simp [dec, h0, hc, hd]
            | k + 3 => simp [dec, h0, hc, hd, he]
theorem dec_take (b : UInt8) (c : List UInt8) (k : Nat) (h : (dec b c).2 ≤ k + 1) : dec b (c.take k) = dec b c := by
  rcases dec_ways b c with h1 | ⟨c1, c', r, rfl, h1⟩ | ⟨c1, c2, c', r, rfl, h1⟩ | ⟨c1, c2, c3, c', r, rfl, h1⟩ | h1
  · rw [h1, h1]
  · rw [h1] at h ⊢
    match k, h with
    | k + 1, _ => rw [List.take_succ_cons, h1]
  · rw [h1] at h ⊢
    match k, h with
    | k + 2, _ => rw [List.take_succ_cons, List.take_succ_cons, h1]
  · rw [h1] at h ⊢
    match k, h with
    | k + 3, _ => rw [List.take_succ_cons, List.take_succ_cons, List.take_succ_cons, h1]
  · have := h1 c.length
    rw [List.take_length] at this
    rw [h1, this]
theorem dec_solid (b : UInt8) (c : List UInt8) (h : (dec b c).1 ≠ 65533) (z : List UInt8) : dec b (c.take ((dec b c).2 - 1) ++ z) = dec b c := by
  rcases dec_ways b c with h1 | ⟨c1, c', r, rfl, h1⟩ | ⟨c1, c2, c', r, rfl, h1⟩ | ⟨c1, c2, c3, c', r, rfl, h1⟩ | h1
  · rw [h1, h1]
  · rw [h1]; exact h1 z
  · rw [h1]; exact h1 z
  · rw [h1]; exact h1 z
  · have := h1 c.length
    rw [List.take_length] at this
    rw [this] at h
    exact absurd rfl h

/-! ### Joined texts -/
theorem step_cons (b : UInt8) (t : List UInt8) : step (b :: t) = dec b (tw t) := rfl
theorem step_append (a b : List UInt8) (ha : a ≠ []) (h : tw b = []) : step (a ++ b) = step a := by
  cases a with
  | nil => exact absurd rfl ha
  | cons x a => rw [List.cons_append, step_cons, step_cons, tw_append a b h]
theorem runes_append (a b : List UInt8) (h : tw b = []) : runes (a ++ b) = runes a ++ runes b := by
  refine rune_ind (C := fun a => runes (a ++ b) = runes a ++ runes b) rfl (fun a ha ih => ?_) a
  show runes (a ++ b) = _
  have hs := step_append a b ha h
  have hle := step_le a ha
  rw [runes_cons a ha, runes_cons (a ++ b) (by simp [ha]), hs, List.take_append_of_le_length hle, List.drop_append_of_le_length hle, List.cons_append]
  rw [ih]

/-! ### Cut texts -/
theorem step_take (l : List UInt8) (hl : l ≠ []) (k : Nat) (h : (step l).2 ≤ k) : step (l.take k) = step l := by
  cases l with
  | nil => exact absurd rfl hl
  | cons b t =>
    cases k with
    | zero => have := step_pos (b :: t); omega
    | succ k =>
      rw [List.take_succ_cons, step_cons, step_cons, tw_take, dec_take]
      exact h
theorem cat_take (l : List UInt8) (n : Nat) : cat ((runes l).take n) = l.take (cat ((runes l).take n)).length := by
  have h : cat ((runes l).take n) ++ cat ((runes l).drop n) = l := by rw [← cat_append, List.take_append_drop, cat_runes]
  have := congrArg (List.take (cat ((runes l).take n)).length) h
  rw [List.take_left'] at this
  · exact this
  · rfl
theorem runes_cut (l : List UInt8) : ∀ n, runes (cat ((runes l).take n)) = (runes l).take n := by
  refine rune_ind (C := fun l => ∀ n, runes (cat ((runes l).take n)) = (runes l).take n) (fun n => by simp [runes_nil, cat_nil]) (fun l hl ih => ?_) l
  show ∀ n, runes (cat ((runes l).take n)) = (runes l).take n
  intro n
  cases n with
  | zero => simp [cat_nil, runes_nil]
  | succ n =>
    have hle := step_le l hl
    have hpos := step_pos l
    obtain ⟨y, hy⟩ : ∃ y, cat ((runes (l.drop (step l).2)).take n) = y := ⟨_, rfl⟩
    have hy2 : y = (l.drop (step l).2).take y.length := by have := cat_take (l.drop (step l).2) n; rw [hy] at this; exact this
    have e1 : cat ((runes l).take (n + 1)) = l.take ((step l).2 + y.length) := by
      rw [runes_cons l hl, List.take_succ_cons, cat_cons, hy, List.take_add, ← hy2]
    have hne : l.take ((step l).2 + y.length) ≠ [] := by
      intro e
      have := congrArg List.length e
      have := List.length_pos_iff.2 hl
      simp only [List.length_take, List.length_nil] at *
      omega
    have hs := step_take l hl ((step l).2 + y.length) (by omega)
    have ih := ih n
    rw [hy] at ih
    rw [e1, runes_cons _ hne, hs, runes_cons l hl, List.take_succ_cons, List.take_take, Nat.min_eq_left (by omega), List.drop_take, Nat.add_sub_cancel_left, ← hy2, ih]
theorem runes_cutL (l : List UInt8) (n : Int) : runes (cutL l n) = (runes l).take n.toNat := runes_cut l _
theorem cutL_cutL (l : List UInt8) (n m : Int) (hn : 0 ≤ n) (hm : 0 ≤ m) : cutL (cutL l n) m = cutL l (min n m) := by
  unfold cutL
  rw [runes_cut, List.take_take]
  congr 2
  omega
theorem cutL_all (l : List UInt8) (n : Int) (h : ((runes l).length : Int) ≤ n) : cutL l n = l := by
  unfold cutL
  rw [List.take_of_length_le (by omega), cat_runes]
theorem piece_ne (l : List UInt8) : ∀ p ∈ runes l, p.2 ≠ [] := by
  refine rune_ind (C := fun l => ∀ p ∈ runes l, p.2 ≠ []) (by simp [runes_nil]) (fun l hl ih => ?_) l
  show ∀ p ∈ runes l, p.2 ≠ []
  intro p hp
  rw [runes_cons l hl] at hp
  rcases List.mem_cons.1 hp with rfl | hp
  · intro e
    have := congrArg List.length e
    have := step_pos l
    have := List.length_pos_iff.2 hl
    simp only [List.length_take, List.length_nil] at *
    omega
  · exact ih p hp
theorem cutL_next (l : List UInt8) (i : Nat) (h : i < (runes l).length) : ∃ x, x ≠ [] ∧ cutL l ((i : Int) + 1) = cutL l i ++ x := by
  refine ⟨((runes l)[i]).2, piece_ne l _ (List.getElem_mem h), ?_⟩
  unfold cutL
  rw [show ((i : Int) + 1).toNat = i + 1 by omega, show ((i : Int)).toNat = i by omega, List.take_add_one, List.getElem?_eq_getElem h, cat_append]
  simp [cat_cons, cat_nil]

/-! ### Folded texts -/
theorem tw_enc {r : Nat} (h : r < 2048) (z : List UInt8) : tw (enc r ++ z) = [] := by
  unfold enc
  split
  · rename_i h1
    refine tw_cons_no ?_
    simp [contB]; omega
  · refine tw_cons_no ?_
    simp [contB]; omega
theorem step_enc {r : Nat} (h : r < 2048) (z : List UInt8) : step (enc r ++ z) = (r, (enc r).length) := by
  unfold enc
  split
  · rename_i h1
    rw [List.singleton_append, step_cons]
    have e : (UInt8.ofNat r).toNat = r := by simp; omega
    have : (UInt8.ofNat r).toNat < 128 := by omega
    unfold dec
    split <;> simp only [e, h1, if_true] <;> rfl
  · rename_i h1
    have e1 : (UInt8.ofNat (192 + r / 64)).toNat = 192 + r / 64 := by simp; omega
    have e2 : (UInt8.ofNat (128 + r % 64)).toNat = 128 + r % 64 := by simp; omega
    show step (UInt8.ofNat (192 + r / 64) :: (UInt8.ofNat (128 + r % 64) :: z)) = _
    rw [step_cons, tw_cons_yes (by simp [contB]; omega), dec_two (by rw [e1]; omega) (by rw [e1, e2]; omega), e1, e2]
    simp; omega
theorem foldL_cons (l : List UInt8) (hl : l ≠ []) : foldL l = (foldP ((step l).1, l.take (step l).2)).2 ++ foldL (l.drop (step l).2) := by
  unfold foldL
  rw [runes_cons l hl, List.map_cons, cat_cons]
theorem foldL_nil : foldL [] = [] := rfl
theorem tw_fold (l : List UInt8) : tw (foldL l) = tw l := by
  refine rune_ind (C := fun l => tw (foldL l) = tw l) rfl (fun l hl ih => ?_) l
  show tw (foldL l) = tw l
  rw [foldL_cons l hl]
  cases hf : isFold (step l).1
  · rw [foldP_no hf]
    show tw (l.take (step l).2 ++ foldL (l.drop (step l).2)) = tw l
    rw [tw_congr _ ih, List.take_append_drop]
  · rw [foldP_yes hf]
    have hr := isFold_yes hf
    rw [tw_enc (by omega)]
    cases l with
    | nil => exact absurd rfl hl
    | cons b t =>
      cases hb : contB b
      · rw [tw_cons_no hb]
      · rw [step_cons, dec_cont hb] at hr
        omega
theorem step_unfold {l : List UInt8} (hl : l ≠ []) {y : List UInt8} (hy : tw y = tw (l.drop (step l).2)) : step (l.take (step l).2 ++ y) = step l := by
  have hpos := step_pos l
  cases l with
  | nil => exact absurd rfl hl
  | cons b t =>
    obtain ⟨d, hd⟩ : ∃ d, (step (b :: t)).2 = d + 1 := ⟨(step (b :: t)).2 - 1, by omega⟩
    rw [hd] at hy ⊢
    rw [List.take_succ_cons, List.cons_append, step_cons, step_cons, tw_congr _ hy]
    rw [List.drop_succ_cons, List.take_append_drop]
theorem runes_fold (l : List UInt8) : runes (foldL l) = (runes l).map foldP := by
  refine rune_ind (C := fun l => runes (foldL l) = (runes l).map foldP) rfl (fun l hl ih => ?_) l
  show runes (foldL l) = (runes l).map foldP
  have hle := step_le l hl
  have hne : foldL l ≠ [] := by
    intro e
    have := congrArg List.length e
    rw [foldL_len] at this
    exact hl (List.length_eq_zero_iff.1 this)
  have hfl := foldL_cons l hl
  have hx : (l.take (step l).2).length = (step l).2 := by rw [List.length_take]; omega
  cases hf : isFold (step l).1
  · rw [foldP_no hf] at hfl
    have hs : step (foldL l) = step l := by rw [hfl]; exact step_unfold hl (tw_fold _)
    have e1 : (foldL l).take (step l).2 = l.take (step l).2 := by rw [hfl]; exact List.take_left' hx
    have e2 : (foldL l).drop (step l).2 = foldL (l.drop (step l).2) := by rw [hfl]; exact List.drop_left' hx
    rw [runes_cons _ hne, hs, e1, e2, ih, runes_cons l hl, List.map_cons, foldP_no hf]
  · rw [foldP_yes hf] at hfl
    have hr := isFold_yes hf
    have hlen : (enc ((step l).1 - 32)).length = (step l).2 := by
      have h1 := foldP_len (p := ((step l).1, l.take (step l).2)) (by simp only [hx]; exact step_len l)
      rw [foldP_yes hf] at h1
      simp only [hx] at h1
      exact h1
    have hs : step (foldL l) = ((step l).1 - 32, (step l).2) := by rw [hfl, ← hlen]; exact step_enc (by omega) _
    have e1 : (foldL l).take (step l).2 = enc ((step l).1 - 32) := by rw [hfl]; exact List.take_left' hlen
    have e2 : (foldL l).drop (step l).2 = foldL (l.drop (step l).2) := by rw [hfl]; exact List.drop_left' hlen
    rw [runes_cons _ hne, hs, e1, e2, ih, runes_cons l hl, List.map_cons, foldP_yes hf]
theorem foldP_twice (p : Nat × List UInt8) : foldP (foldP p) = foldP p := by
  obtain ⟨r, x⟩ := p
  cases hf : isFold r
  · rw [foldP_no hf, foldP_no hf]
  · rw [foldP_yes hf]
    refine foldP_no ?_
    have := isFold_yes hf
    unfold isFold
    refine decide_eq_false ?_
    omega
theorem foldL_twice (l : List UInt8) : foldL (foldL l) = foldL l := by
  unfold foldL
  have h := runes_fold l
  unfold foldL at h
  rw [h, List.map_map]
  congr 1
  refine List.map_congr_left fun p _ => ?_
  exact foldP_twice p
theorem foldL_count (l : List UInt8) : (runes (foldL l)).length = (runes l).length := by rw [runes_fold, List.length_map]
theorem foldL_cut (l : List UInt8) (n : Int) : foldL (cutL l n) = cutL (foldL l) n := by
  have h1 := runes_cutL l n
  have h2 := runes_fold l
  unfold foldL cutL at *
  rw [h1, h2, List.map_take]
end Go.Proofs.Ytkgjnapkpbagnaa
