/-
  Plain facts on folded texts; the contracts of the small functions that Fold calls.
-/
import Derived.Test.YtkgjnapkpbagnaaRefBack
namespace Go.Proofs.Ytkgjnapkpbagnaa
open Go.RowKit
set_option linter.unusedVariables false
set_option linter.unusedSimpArgs false

/-- Is the rune folded? -/
def isFold (r : Nat) : Bool := decide ((97 ≤ r ∧ r ≤ 122) ∨ (945 ≤ r ∧ r ≤ 969 ∧ r ≠ 962))
theorem isFold_yes {r : Nat} (h : isFold r = true) : (97 ≤ r ∧ r ≤ 122) ∨ (945 ≤ r ∧ r ≤ 969 ∧ r ≠ 962) := of_decide_eq_true h
theorem isFold_no {r : Nat} (h : isFold r = false) : ¬ ((97 ≤ r ∧ r ≤ 122) ∨ (945 ≤ r ∧ r ≤ 969 ∧ r ≠ 962)) := of_decide_eq_false h
/-- A rune folded, with its bytes. -/
def foldP (p : Nat × List UInt8) : Nat × List UInt8 := bif isFold p.1 then (p.1 - 32, enc (p.1 - 32)) else p
theorem foldP_yes {r : Nat} {x : List UInt8} (h : isFold r = true) : foldP (r, x) = (r - 32, enc (r - 32)) := by unfold foldP; rw [h]; rfl
theorem foldP_no {r : Nat} {x : List UInt8} (h : isFold r = false) : foldP (r, x) = (r, x) := by unfold foldP; rw [h]; rfl
/-- A text folded; and its first k runes. -/
def foldL (l : List UInt8) : List UInt8 := cat ((runes l).map foldP)
def foldTo (l : List UInt8) (k : Nat) : List UInt8 := cat (((runes l).take k).map foldP)
theorem foldTo_zero (l : List UInt8) : foldTo l 0 = [] := rfl
theorem foldTo_all (l : List UInt8) : foldTo l (runes l).length = foldL l := by unfold foldTo foldL; rw [List.take_length]
theorem foldTo_next {l : List UInt8} {k r : Nat} {x : List UInt8} (h : (runes l)[k]? = some (r, x)) : foldTo l (k + 1) = foldTo l k ++ (foldP (r, x)).2 := by
  unfold foldTo
  rw [List.take_add_one, h, List.map_append, cat_append]
  simp only [Option.toList_some, List.map_cons, List.map_nil, cat_cons, cat_nil, List.append_nil]

theorem dec_len (b : UInt8) (c : List UInt8) : ((dec b c).1 < 128 → (dec b c).2 = 1) ∧ (128 ≤ (dec b c).1 → (dec b c).1 < 2048 → (dec b c).2 = 2) := by
  match c with
  | [] => simp only [dec]; repeat' split
          all_goals simp <;> omega
  | [c1] => simp only [dec]; repeat' split
            all_goals simp <;> omega
  | [c1, c2] => simp only [dec]; repeat' split
                all_goals simp <;> omega
  | c1 :: c2 :: c3 :: c => simp only [dec]; repeat' split
                           all_goals simp <;> omega
theorem step_len (l : List UInt8) : ((step l).1 < 128 → (step l).2 = 1) ∧ (128 ≤ (step l).1 → (step l).1 < 2048 → (step l).2 = 2) := by
  cases l with
  | nil => simp [step]
  | cons b l => exact dec_len _ _
theorem rune_len (l : List UInt8) : ∀ p ∈ runes l, (p.1 < 128 → p.2.length = 1) ∧ (128 ≤ p.1 → p.1 < 2048 → p.2.length = 2) := by
  refine rune_ind (C := fun l => ∀ p ∈ runes l, (p.1 < 128 → p.2.length = 1) ∧ (128 ≤ p.1 → p.1 < 2048 → p.2.length = 2)) (by simp [runes_nil]) (fun l h ih => ?_) l
  show ∀ p ∈ runes l, _
  intro p hp
  rw [runes_cons l h, List.mem_cons] at hp
  rcases hp with rfl | hp
  · have h1 := step_len l
    have h2 := step_le l h
    simp only [List.length_take, Nat.min_eq_left h2]
    exact h1
  · exact ih p hp
theorem enc_one {r : Nat} (h : r < 128) : (enc r).length = 1 := by unfold enc; rw [if_pos h]; rfl
theorem enc_two {r : Nat} (h : 128 ≤ r) : (enc r).length = 2 := by unfold enc; rw [if_neg (by omega)]; rfl
theorem foldP_len {p : Nat × List UInt8} (h : (p.1 < 128 → p.2.length = 1) ∧ (128 ≤ p.1 → p.1 < 2048 → p.2.length = 2)) : (foldP p).2.length = p.2.length := by
  obtain ⟨r, x⟩ := p
  cases hf : isFold r
  · rw [foldP_no hf]
  · rw [foldP_yes hf]
    rcases isFold_yes hf with h1 | h1
    · show (enc (r - 32)).length = x.length
      rw [enc_one (by omega)]; exact (h.1 (show r < 128 by omega)).symm
    · show (enc (r - 32)).length = x.length
      rw [enc_two (by omega)]; exact (h.2 (show 128 ≤ r by omega) (show r < 2048 by omega)).symm
theorem cat_len_map (P : List (Nat × List UInt8)) (h : ∀ p ∈ P, (p.1 < 128 → p.2.length = 1) ∧ (128 ≤ p.1 → p.1 < 2048 → p.2.length = 2)) : (cat (P.map foldP)).length = (cat P).length := by
  induction P with
  | nil => rfl
  | cons p P ih =>
    rw [List.map_cons, cat_cons, cat_cons, List.length_append, List.length_append, ih (fun q hq => h q (List.mem_cons_of_mem _ hq)), foldP_len (h p List.mem_cons_self)]
theorem foldTo_len {l : List UInt8} {k pos : Nat} (h : At l k pos) : (foldTo l k).length = pos := by
  unfold foldTo
  rw [cat_len_map _ (fun p hp => rune_len l p (List.mem_of_mem_take hp)), h.2.2.2, List.length_take]
  have := h.1
  omega
theorem foldL_len (l : List UInt8) : (foldL l).length = l.length := by rw [← foldTo_all]; exact foldTo_len (at_len l)

/-- What is folded, and what is still to be copied. -/
theorem fold_keep {l : List UInt8} {k p pos r d : Nat} {acc : List UInt8} (h : (runes l)[k]? = some (r, (l.drop pos).take d)) (hd : pos + d ≤ l.length) (hp : p ≤ pos) (hr : isFold r = false)
    (ha : foldTo l k = acc ++ (l.take pos).drop p) : foldTo l (k + 1) = acc ++ (l.take (pos + d)).drop p := by
  rw [foldTo_next h, foldP_no hr, ha, List.append_assoc]
  congr 1
  rw [List.take_add, List.drop_append_of_le_length (by rw [List.length_take]; omega)]
theorem fold_turn {l : List UInt8} {k p pos r d : Nat} {acc : List UInt8} (h : (runes l)[k]? = some (r, (l.drop pos).take d)) (hr : isFold r = true)
    (ha : foldTo l k = acc ++ (l.take pos).drop p) : foldTo l (k + 1) = acc ++ (l.take pos).drop p ++ enc (r - 32) := by
  rw [foldTo_next h, foldP_yes hr, ha]
theorem fold_stop {l acc : List UInt8} {k p pos : Nat} (h : At l k pos) (hp : ¬ pos < l.length) (ha : foldTo l k = acc ++ (l.take pos).drop p) : foldL l = acc ++ l.drop p := by
  obtain ⟨e1, e2⟩ := at_end h hp
  rw [← foldTo_all, ← e2, ha, e1, List.take_length]
theorem fold_wide {l : List UInt8} {k r pos d : Nat} (h : (runes l)[k]? = some (r, (l.drop pos).take d)) (hd : pos + d ≤ l.length) (hr : isFold r = true) : (r < 128 ∧ d = 1) ∨ (128 ≤ r ∧ r < 2048 ∧ d = 2) := by
  have hl := rune_len l _ (List.mem_of_getElem? h)
  have hx : ((l.drop pos).take d).length = d := by rw [List.length_take, List.length_drop]; omega
  simp only [hx] at hl
  rcases isFold_yes hr with h1 | h1
  · exact .inl ⟨by omega, hl.1 (by omega)⟩
  · exact .inr ⟨by omega, by omega, hl.2 (by omega) (by omega)⟩

set_option maxRecDepth 100000 in
theorem Fold_no (r : Nat) (w : World) (hr : isFold r = false) (hb : r ≤ 2147483647) : Calls Try.prog 25 #[.int .i32 r] w fun e w' => e = .returned (.int .i32 r) ∧ w' = w := by
  have h := isFold_no hr
  clear hr
  by_cases h1 : 97 ≤ r <;> by_cases h2 : r ≤ 122 <;> by_cases h3 : 945 ≤ r <;> by_cases h4 : r ≤ 969
  all_goals first
    | (exfalso; omega)
    | (have i3 : ((r : Int) == 962) = true := by simp; omega
       clear h
       go_enter Try.func25, Try.ntmps25
       go_wp2
       go_ret
       exact ⟨rfl, rfl⟩)
    | (clear h
       go_enter Try.func25, Try.ntmps25
       go_wp2
       go_ret
       exact ⟨rfl, rfl⟩)

set_option maxRecDepth 100000 in
theorem Fold_yes (r : Nat) (w : World) (hr : isFold r = true) : Calls Try.prog 25 #[.int .i32 r] w fun e w' => e = .returned (.int .i32 ((r - 32 : Nat) : Int)) ∧ w' = w := by
  rcases isFold_yes hr with h1 | h1
  · clear hr
    go_enter Try.func25, Try.ntmps25
    go_wp2
    go_ret
    exact ⟨by congr 1; go_num, rfl⟩
  · have i3 : ((r : Int) == 962) = false := by simp; omega
    clear hr
    go_enter Try.func25, Try.ntmps25
    go_wp2
    go_ret
    exact ⟨by congr 1; go_num, rfl⟩

set_option maxRecDepth 100000 in
theorem RuneLen_one (r : Nat) (w : World) (h : r < 128) : Calls Try.prog 28 #[.int .i32 r] w fun e w' => e = .returned (.int .i64 1) ∧ w' = w := by
  go_enter Try.func28, Try.ntmps28
  go_wp2
  go_ret
  exact ⟨rfl, rfl⟩
set_option maxRecDepth 100000 in
theorem RuneLen_two (r : Nat) (w : World) (h : 128 ≤ r) (h2 : r < 2048) : Calls Try.prog 28 #[.int .i32 r] w fun e w' => e = .returned (.int .i64 2) ∧ w' = w := by
  go_enter Try.func28, Try.ntmps28
  go_wp2
  go_ret
  exact ⟨rfl, rfl⟩
theorem RuneLen_any (r d : Nat) (w : World) (h : (r < 128 ∧ d = 1) ∨ (128 ≤ r ∧ r < 2048 ∧ d = 2)) : Calls Try.prog 28 #[.int .i32 r] w fun e w' => e = .returned (.int .i64 d) ∧ w' = w := by
  rcases h with ⟨h1, rfl⟩ | ⟨h1, h2, rfl⟩
  · exact RuneLen_one r w h1
  · exact RuneLen_two r w h1 h2
end Go.Proofs.Ytkgjnapkpbagnaa
