/-
  Plain facts on right labels, turned and joined, and on texts that are filled up. No program is named here.
-/
import Derived.Test.YtkgjnapkpbagnaaRuneFacts
namespace Go.Proofs.Ytkgjnapkpbagnaa
open Go.RowKit
set_option linter.unusedVariables false
set_option linter.unusedSimpArgs false

/-- A rune that reads as itself whatever follows. -/
def Solid (p : Nat × List UInt8) : Prop := p.2 ≠ [] ∧ ∀ z, step (p.2 ++ z) = (p.1, p.2.length)
theorem runes_solid (P : List (Nat × List UInt8)) (h : ∀ p ∈ P, Solid p) (z : List UInt8) : runes (cat P ++ z) = P ++ runes z := by
  induction P with
  | nil => rfl
  | cons p P ih =>
    obtain ⟨hne, hs⟩ := h p List.mem_cons_self
    have ih := ih (fun q hq => h q (List.mem_cons_of_mem _ hq))
    have e : cat (p :: P) ++ z = p.2 ++ (cat P ++ z) := by rw [cat_cons, List.append_assoc]
    rw [e, runes_cons _ (by simp [hne]), hs]
    rw [List.take_left' rfl, List.drop_left' rfl, ih, List.cons_append]
theorem runes_solid' (P : List (Nat × List UInt8)) (h : ∀ p ∈ P, Solid p) : runes (cat P) = P := by
  have := runes_solid P h []
  rw [List.append_nil, runes_nil, List.append_nil] at this
  exact this
theorem solid_step {l : List UInt8} (hl : l ≠ []) (h : (step l).1 ≠ 65533) : Solid ((step l).1, l.take (step l).2) := by
  have hle := step_le l hl
  have hpos := step_pos l
  refine ⟨?_, fun z => ?_⟩
  · intro e
    have := congrArg List.length e
    have := List.length_pos_iff.2 hl
    simp only [List.length_take, List.length_nil] at *
    omega
  · simp only [List.length_take, Nat.min_eq_left hle]
    cases l with
    | nil => exact absurd rfl hl
    | cons b t =>
      obtain ⟨d, hd⟩ : ∃ d, (step (b :: t)).2 = d + 1 := ⟨(step (b :: t)).2 - 1, by omega⟩
      rw [hd, List.take_succ_cons, List.cons_append, step_cons]
      have hw := (dec_width b (tw t)).2
      rw [← step_cons, hd] at hw
      obtain ⟨y, hy⟩ := tw_split t
      have ht : t.take d = (tw t).take d := by
        have := congrArg (List.take d) hy
        rw [List.take_append_of_le_length (by omega)] at this
        exact this
      rw [ht, tw_of_all _ z (fun c hc => tw_all t c (List.mem_of_mem_take hc))]
      rw [step_cons] at h hd
      have := dec_solid b (tw t) h (tw z)
      rw [hd, Nat.add_sub_cancel] at this
      rw [this, step_cons, ← hd]
theorem solid_of (l : List UInt8) : ∀ p ∈ runes l, p.1 ≠ 65533 → Solid p := by
  refine rune_ind (C := fun l => ∀ p ∈ runes l, p.1 ≠ 65533 → Solid p) (by simp [runes_nil]) (fun l hl ih => ?_) l
  show ∀ p ∈ runes l, p.1 ≠ 65533 → Solid p
  intro p hp h
  rw [runes_cons l hl] at hp
  rcases List.mem_cons.1 hp with rfl | hp
  · exact solid_step hl h
  · exact ih p hp h
theorem right_solid {l : List UInt8} (h : rightB l = true) : ∀ p ∈ runes l, Solid p :=
  fun p hp => solid_of l p hp (okR_yes ((rightB_yes h).1 p hp)).2.2

/-! ### Right labels -/
theorem runes_back {l : List UInt8} (h : rightB l = true) : runes (backL l) = (runes l).reverse :=
  runes_solid' _ (fun p hp => right_solid h p (List.mem_reverse.1 hp))
theorem back_back {l : List UInt8} (h : rightB l = true) : backL (backL l) = l := by
  have := runes_back h
  unfold backL at *
  rw [this, List.reverse_reverse, cat_runes]
theorem right_back {l : List UInt8} (h : rightB l = true) : rightB (backL l) = true := by
  obtain ⟨h1, h2, h3⟩ := rightB_yes h
  have hr := runes_back h
  exact rightB_of (by rw [hr]; exact fun p hp => h1 p (List.mem_reverse.1 hp)) (by rw [hr, List.length_reverse]; exact h2) (by rw [hr, List.length_reverse]; exact h3)
theorem okR_fold {p : Nat × List UInt8} (h : okR p.1 = true) : okR (foldP p).1 = true := by
  obtain ⟨r, x⟩ := p
  cases hf : isFold r
  · rw [foldP_no hf]; exact h
  · rw [foldP_yes hf]
    have := isFold_yes hf
    exact decide_eq_true (by show 32 ≤ r - 32 ∧ r - 32 ≠ 127 ∧ r - 32 ≠ 65533; omega)
theorem right_fold {l : List UInt8} (h : rightB l = true) : rightB (foldL l) = true := by
  obtain ⟨h1, h2, h3⟩ := rightB_yes h
  have hr := runes_fold l
  refine rightB_of ?_ (by rw [hr, List.length_map]; exact h2) (by rw [hr, List.length_map]; exact h3)
  rw [hr]
  intro p hp
  obtain ⟨q, hq, rfl⟩ := List.mem_map.1 hp
  exact okR_fold (h1 q hq)
theorem right_len {l : List UInt8} (h : rightB l = true) : l.length ≤ 48 := by
  obtain ⟨h1, h2, h3⟩ := rightB_yes h
  have hw : ∀ P : List (Nat × List UInt8), (∀ p ∈ P, p.2.length ≤ 4) → (cat P).length ≤ 4 * P.length := by
    intro P
    induction P with
    | nil => intro _; simp [cat_nil]
    | cons p P ih =>
      intro hP
      have := ih (fun q hq => hP q (List.mem_cons_of_mem _ hq))
      have := hP p List.mem_cons_self
      rw [cat_cons, List.length_append, List.length_cons]
      omega
  have h4 : ∀ l : List UInt8, ∀ p ∈ runes l, p.2.length ≤ 4 := by
    intro l
    refine rune_ind (C := fun l => ∀ p ∈ runes l, p.2.length ≤ 4) (by simp [runes_nil]) (fun l hl ih => ?_) l
    show ∀ p ∈ runes l, p.2.length ≤ 4
    intro p hp
    rw [runes_cons l hl] at hp
    rcases List.mem_cons.1 hp with rfl | hp
    · have : (step l).2 ≤ 4 := by
        cases l with
        | nil => exact absurd rfl hl
        | cons b t =>
          rw [step_cons]
          rcases dec_ways b (tw t) with g | ⟨c1, c', r, e, g⟩ | ⟨c1, c2, c', r, e, g⟩ | ⟨c1, c2, c3, c', r, e, g⟩ | g
          · rw [g]; simp
          · rw [e, g]; simp
          · rw [e, g]; simp
          · rw [e, g]; simp
          · have := g (tw t).length
            rw [List.take_length] at this
            rw [this]; simp
      rw [List.length_take]; omega
    · exact ih p hp
  have := hw (runes l) (h4 l)
  rw [cat_runes] at this
  omega
theorem right_head {l : List UInt8} (h : rightB l = true) : tw l = [] := by
  obtain ⟨h1, h2, h3⟩ := rightB_yes h
  cases l with
  | nil => rfl
  | cons b t =>
    cases hb : contB b
    · exact tw_cons_no hb
    · have hm : ((step (b :: t)).1, (b :: t).take (step (b :: t)).2) ∈ runes (b :: t) := by rw [runes_cons (b :: t) (by simp)]; exact List.mem_cons_self
      have := okR_yes (h1 _ hm)
      simp only [step_cons, dec_cont hb] at this
      omega
theorem runes_join {s t : List UInt8} (ht : rightB t = true) : runes (s ++ t) = runes s ++ runes t := runes_append s t (right_head ht)
theorem fold_join {s t : List UInt8} (ht : rightB t = true) : foldL (s ++ t) = foldL s ++ foldL t := by
  unfold foldL; rw [runes_join ht, List.map_append, cat_append]
theorem back_join {s t : List UInt8} (ht : rightB t = true) : backL (s ++ t) = backL t ++ backL s := by
  unfold backL; rw [runes_join ht, List.reverse_append, cat_append]
theorem cut_join {s t : List UInt8} (ht : rightB t = true) : cutL (s ++ t) (runes s).length = s := by
  unfold cutL
  rw [runes_join ht, show ((runes s).length : Int).toNat = (runes s).length by omega, List.take_left' rfl, cat_runes]
theorem right_join {s t : List UInt8} (hs : rightB s = true) (ht : rightB t = true) : rightB (s ++ t) = decide (((runes (s ++ t)).length : Int) ≤ 12) := by
  obtain ⟨a1, a2, a3⟩ := rightB_yes hs
  obtain ⟨b1, b2, b3⟩ := rightB_yes ht
  have hr := runes_join (s := s) ht
  by_cases h : (runes (s ++ t)).length ≤ 12
  · rw [decide_eq_true (by omega)]
    refine rightB_of ?_ (by rw [hr, List.length_append]; omega) h
    rw [hr]
    intro p hp
    rcases List.mem_append.1 hp with hp | hp
    · exact a1 p hp
    · exact b1 p hp
  · rw [decide_eq_false (by omega)]
    exact rightB_long (by omega)

/-! ### Texts that are filled up -/
theorem solid_blank : Solid (32, [32]) := ⟨by simp, fun z => step_enc (r := 32) (by omega) z⟩
theorem cat_blanks (j : Nat) : cat (List.replicate j (32, [32])) = List.replicate j 32 := by
  induction j with
  | zero => rfl
  | succ j ih => rw [List.replicate_succ, cat_cons, ih, List.replicate_succ]; rfl
theorem runes_blanks (j : Nat) : runes (List.replicate j 32) = List.replicate j (32, [32]) := by
  have := runes_solid' (List.replicate j (32, [32])) (fun p hp => by rw [List.eq_of_mem_replicate hp]; exact solid_blank)
  rw [cat_blanks] at this
  exact this
theorem tw_blanks (j : Nat) : tw (List.replicate j 32) = [] := by
  cases j with
  | zero => rfl
  | succ j => rw [List.replicate_succ]; exact tw_cons_no (by decide)
theorem runes_pad (l : List UInt8) (m : Int) : runes (padTo l m) = (runes l).take m.toNat ++ List.replicate (m - (runes (cutL l m)).length).toNat (32, [32]) := by
  unfold padTo
  rw [runes_append _ _ (tw_blanks _), runes_blanks, runes_cutL]
theorem pad_count (l : List UInt8) (m : Int) (h : 0 ≤ m) : ((runes (padTo l m)).length : Int) = m := by
  rw [runes_pad, runes_cutL, List.length_append, List.length_replicate, List.length_take]
  omega
theorem pad_cut (l : List UInt8) (m k : Int) (h : k.toNat = ((runes l).take m.toNat).length) : cutL (padTo l m) k = cutL l m := by
  unfold cutL
  rw [runes_pad, h, List.take_left' rfl]
theorem pad_same (l : List UInt8) (m : Int) (h : 0 ≤ m) : padTo (padTo l m) m = padTo l m := by
  have hc := pad_count l m h
  have e : cutL (padTo l m) m = padTo l m := cutL_all _ _ (by omega)
  obtain ⟨q, eq⟩ : ∃ q, padTo l m = q := ⟨_, rfl⟩
  rw [eq] at hc e ⊢
  unfold padTo
  rw [e, show (m - ((runes q).length : Int)).toNat = 0 by omega, List.replicate_zero, List.append_nil]
theorem pad_full (l : List UInt8) : padTo l (runes l).length = l := by
  unfold padTo
  rw [cutL_all l _ (by omega), show (((runes l).length : Int) - ((runes l).length : Int)).toNat = 0 by omega, List.replicate_zero, List.append_nil]
theorem pad_none (l : List UInt8) (m : Int) (h : m ≤ 0) : padTo l m = [] := by
  unfold padTo
  rw [cutL_neg l h, runes_nil, show (m - (([] : List (Nat × List UInt8)).length : Int)).toNat = 0 by simp; omega]
  rfl
theorem pad_len_eq (l : List UInt8) (m : Int) : ((padTo l m).length : Int) - (cutL l m).length = ((m - (runes (cutL l m)).length).toNat : Int) := by
  unfold padTo
  rw [List.length_append, List.length_replicate]
  omega
theorem pad_start (l : List UInt8) (m : Int) : (padTo l m).take (cutL l m).length = cutL l m := by
  unfold padTo
  exact List.take_left' rfl
theorem pad_blank (l : List UInt8) (m : Int) (i : Nat) (h1 : (cutL l m).length ≤ i) (h2 : i < (padTo l m).length) : (padTo l m)[i]? = some 32 := by
  unfold padTo at h2 ⊢
  rw [List.length_append, List.length_replicate] at h2
  rw [List.getElem?_append_right h1, List.getElem?_replicate, if_pos (by omega)]
theorem cutL_start (l : List UInt8) (n : Int) : l.take (cutL l n).length = cutL l n := (cat_take l n.toNat).symm
theorem cutL_count (l : List UInt8) (n : Int) (h : 0 ≤ n) : ((runes (cutL l n)).length : Int) = min n (runes l).length := by
  rw [runes_cutL, List.length_take]; omega
end Go.Proofs.Ytkgjnapkpbagnaa
