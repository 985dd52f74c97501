/-
  Shares in two parts: plain lists, nothing of the program.
-/
import Derived.Test.YtabogoonbapjiaaPrFacts
namespace Go.Proofs.Ytabogoonbapjiaa
open Go.RowKit
set_option linter.unusedVariables false
set_option linter.unusedSimpArgs false

/-- What is shared by arrival. -/
def earlyK (part q : Int) : Int := q * part / 100
theorem early_fit {part q : Int} (hp : 0 ≤ part) (hp2 : part ≤ 100) (hq : 0 ≤ q) : 0 ≤ earlyK part q ∧ earlyK part q ≤ q := by
  unfold earlyK
  refine ⟨Int.ediv_nonneg (Int.mul_nonneg hq hp) (by omega), Int.ediv_le_of_le_mul (by omega) (Int.mul_le_mul_of_nonneg_left hp2 hq)⟩
theorem early_eq (part q : Int) : earlyK part q = q * part / 100 := rfl
theorem early_all (q : Int) : earlyK 100 q = q := by unfold earlyK; omega
theorem early_none (q : Int) : earlyK 0 q = 0 := by unfold earlyK; omega
/-- First by arrival, the rest by size. -/
def splitB (l : List Int) (part least q : Int) : List Int := addZ (fillL l (earlyK part q)) (plainB (subZ l (fillL l (earlyK part q))) least (q - earlyK part q))
def splitL (l : List Int) (part least q : Int) : List Int := bif rightL l q && (decide (0 ≤ part) && decide (part ≤ 100) && decide (1 ≤ least)) then splitB l part least q else []
theorem split_yes {l : List Int} {part least q : Int} (h : rightL l q = true) (hp : 0 ≤ part) (hp2 : part ≤ 100) (hm : 1 ≤ least) : splitL l part least q = splitB l part least q := by
  unfold splitL; rw [h, decide_eq_true hp, decide_eq_true hp2, decide_eq_true hm]; rfl
theorem split_no {l : List Int} {part least q : Int} (h : (rightL l q && (decide (0 ≤ part) && decide (part ≤ 100) && decide (1 ≤ least))) = false) : splitL l part least q = [] := by
  unfold splitL; rw [h]; rfl
theorem split_case (l : List Int) (part least q : Int) : splitL l part least q = [] ∨ (rightL l q = true ∧ 0 ≤ part ∧ part ≤ 100 ∧ 1 ≤ least) := by
  cases e : rightL l q && (decide (0 ≤ part) && decide (part ≤ 100) && decide (1 ≤ least)) with
  | false => exact .inl (split_no e)
  | true =>
    simp only [Bool.and_eq_true, decide_eq_true_eq] at e
    exact .inr ⟨e.1, e.2.1.1, e.2.1.2, e.2.2⟩

section
variable {l : List Int} {K q : Int}
theorem fillF_len (l : List Int) (K : Int) : l.length = (fillL l K).length := (fill_len l K).symm
theorem fillF_fit (h : ∀ x ∈ l, 0 ≤ x) (hK : 0 ≤ K) {k : Nat} (hk : k < l.length) : 0 ≤ (fillL l K).getD k 0 ∧ (fillL l K).getD k 0 ≤ l.getD k 0 := by
  have a := nonneg_get h hk
  rw [fill_at l K k h hK hk]
  omega
/-- Who lacks something has nobody served behind: those that lack nothing come first. -/
theorem fill_first (h : ∀ x ∈ l, 1 ≤ x) (hK : 0 ≤ K) {c : Nat} (hc : c < l.length) (hne : (fillL l K).getD c 0 ≠ l.getD c 0) {j : Nat} (hj : c ≤ j) (hl : j < l.length) : 0 < l.getD j 0 - (fillL l K).getD j 0 := by
  have h0 : ∀ x ∈ l, 0 ≤ x := fun x hx => by have := h x hx; omega
  have a := fill_at l K c h0 hK hc
  rcases Nat.lt_or_ge c j with hlt | hge
  · have b := fill_at l K j h0 hK hl
    have s1 := sumL_take l c hc
    have s2 : sumL (l.take (c + 1)) ≤ sumL (l.take j) := by
      have e : l.take (c + 1) = (l.take j).take (c + 1) := by rw [List.take_take, Nat.min_eq_left (by omega)]
      rw [e]
      exact sum_take_le (fun x hx => h0 x (List.mem_of_mem_take hx)) _
    have y := h _ (getD_mem hl)
    have x := h _ (getD_mem hc)
    have z := sum_nonneg (l := l.take c) (fun x hx => h0 x (List.mem_of_mem_take hx))
    omega
  · obtain rfl : j = c := by omega
    have y := h _ (getD_mem hl)
    have z := sum_nonneg (l := l.take j) (fun x hx => h0 x (List.mem_of_mem_take hx))
    omega
/-- A list that is nothing up to a place, and something from there on. -/
theorem pos_drop (S : List Int) (c : Nat) (hc : c ≤ S.length) (h0 : ∀ j, j < c → S.getD j 0 = 0) (h1 : ∀ j, c ≤ j → j < S.length → 0 < S.getD j 0) : posL S = S.drop c := by
  induction S generalizing c with
  | nil =>
    have e2 : c = 0 := by simpa using hc
    subst e2
    with_unfolding_all rfl
  | cons x S ih =>
    cases c with
    | zero =>
      have hx := h1 0 (by omega) (by simp)
      simp only [List.getD_cons_zero] at hx
      have := ih 0 (by omega) (fun j hj => by omega) (fun j _ hl => by simpa using h1 (j + 1) (by omega) (by simpa using hl))
      rw [pos_yes _ hx, this]
      simp
    | succ c =>
      have hx := h0 0 (by omega)
      simp only [List.getD_cons_zero] at hx
      have := ih c (by simpa using hc) (fun j hj => by simpa using h0 (j + 1) (by omega)) (fun j hj hl => by simpa using h1 (j + 1) (by omega) (by simpa using hl))
      rw [pos_no _ (by omega), this]
      simp
theorem spread_drop (S z : List Int) (c : Nat) (hc : c ≤ S.length) (hz : z.length = S.length - c) (h0 : ∀ j, j < c → S.getD j 0 = 0) (h1 : ∀ j, c ≤ j → j < S.length → 0 < S.getD j 0) : spreadL S z = List.replicate c 0 ++ z := by
  induction S generalizing c z with
  | nil =>
    have e : z = [] := List.eq_nil_of_length_eq_zero (by simpa using hz)
    have e2 : c = 0 := by simpa using hc
    subst e; subst e2
    with_unfolding_all rfl
  | cons x S ih =>
    cases c with
    | zero =>
      have hx := h1 0 (by omega) (by simp)
      simp only [List.getD_cons_zero] at hx
      cases z with
      | nil => simp at hz
      | cons y z =>
        rw [spread_yes _ _ _ hx, ih z 0 (by omega) (by simpa using hz) (fun j hj => by omega) (fun j _ hl => by simpa using h1 (j + 1) (by omega) (by simpa using hl))]
        simp
    | succ c =>
      have hx := h0 0 (by omega)
      simp only [List.getD_cons_zero] at hx
      rw [spread_no _ _ (by omega), ih z c (by simpa using hc) (by simpa using hz) (fun j hj => by simpa using h0 (j + 1) (by omega)) (fun j hj hl => by simpa using h1 (j + 1) (by omega) (by simpa using hl)), List.replicate_succ, List.cons_append]
end
/-- The two parts, as the program adds them: behind those that lack nothing. -/
theorem drop_sub (a b : List Int) (c : Nat) : subZ (a.drop c) (b.drop c) = (subZ a b).drop c := by
  with_unfolding_all exact (List.drop_zipWith).symm
theorem getD_drop' (a : List Int) (c i : Nat) : (a.drop c).getD i 0 = a.getD (c + i) 0 := by simp [List.getD]
/-- All that the walk of Share needs. -/
theorem split_facts {l : List Int} {part least q : Int} (hR : rightL l q = true) (hp : 0 ≤ part) (hp2 : part ≤ 100) (hm : 1 ≤ least) :
    ∃ K F : _, earlyK part q = K ∧ fillL l K = F ∧ 0 ≤ K ∧ K ≤ q ∧ rightL l K = true ∧ F.length = l.length ∧ (∀ k, k < l.length → 0 ≤ F.getD k 0 ∧ F.getD k 0 ≤ l.getD k 0 ∧ l.getD k 0 ≤ 1000000) ∧
    ∀ c, c ≤ l.length → (∀ j, j < c → F.getD j 0 = l.getD j 0) → (c < l.length → F.getD c 0 ≠ l.getD c 0) →
      ∃ D E : List Int, subZ (l.drop c) (F.drop c) = D ∧ D.length = l.length - c ∧ (∀ x ∈ D, I64 x) ∧ plainL D least (q - K) = E ∧ E.length = l.length - c ∧ (∀ y ∈ E, 0 ≤ y ∧ y ≤ 1000000) ∧
        (splitB l part least q).length = l.length ∧ mixL (splitB l part least q) F c = F ∧ ∀ i, i < l.length - c → (splitB l part least q).getD (c + i) 0 = F.getD (c + i) 0 + E.getD i 0 := by
  obtain ⟨a1, a2, a3, a4⟩ := (right_iff _ _).1 hR
  have h0 : ∀ x ∈ l, 0 ≤ x := fun x hx => by have := a2 x hx; omega
  obtain ⟨k1, k2⟩ := early_fit hp hp2 a3
  obtain ⟨K, hK⟩ : ∃ K, earlyK part q = K := ⟨_, rfl⟩
  rw [hK] at k1 k2
  have lF := fill_len l K
  have sF := fill_all l K h0 k1 (by omega)
  have hF : ∀ k, k < l.length → 0 ≤ (fillL l K).getD k 0 ∧ (fillL l K).getD k 0 ≤ l.getD k 0 := fun k hk => fillF_fit h0 k1 hk
  obtain ⟨f1, f2, f3, f4, f5, f6, f7, f8⟩ := top_facts (F := fillL l K) (K := K) hR hm lF hF sF k2
  refine ⟨K, fillL l K, hK, rfl, k1, k2, (right_iff _ _).2 ⟨a1, a2, k1, by omega⟩, lF, f1, fun c hc hy hn => ?_⟩
  have eB : splitB l part least q = addZ (fillL l K) (plainB (subZ l (fillL l K)) least (q - K)) := by unfold splitB; rw [hK]
  have lS : (subZ l (fillL l K)).length = l.length := subZ_len lF.symm
  have s0 : ∀ j, j < c → (subZ l (fillL l K)).getD j 0 = 0 := fun j hj => by rw [subZ_get lF.symm (by omega), hy j hj]; omega
  have s1 : ∀ j, c ≤ j → j < (subZ l (fillL l K)).length → 0 < (subZ l (fillL l K)).getD j 0 := fun j hj hl => by
    rw [lS] at hl
    rw [subZ_get lF.symm hl]
    exact fill_first (fun x hx => (a2 x hx).1) k1 (by omega) (hn (by omega)) hj hl
  have eD := pos_drop _ c (by omega) s0 s1
  have lD : ((subZ l (fillL l K)).drop c).length = l.length - c := by rw [List.length_drop, lS]
  rw [eD] at f4 f5 f6 f7 f8
  have lE : (plainB ((subZ l (fillL l K)).drop c) least (q - K)).length = l.length - c := by rw [plainB_len, lD]
  have eS := spread_drop _ (plainB ((subZ l (fillL l K)).drop c) least (q - K)) c (by omega) (by rw [lE, lS]) s0 s1
  rw [eS, ← eB] at f8
  have lB : (splitB l part least q).length = l.length := by rw [eB, addZ_len (by rw [plainB_len, lS, lF]), lF]
  have lz : (fillL l K).length = (List.replicate c 0 ++ plainB ((subZ l (fillL l K)).drop c) least (q - K)).length := by rw [List.length_append, List.length_replicate, lE, lF]; omega
  refine ⟨_, _, drop_sub _ _ _, lD, f4, f5, lE, f6, lB, ?_, fun i hi => ?_⟩
  · refine ext_getD (by rw [mix_len lB lF hc, lF]) (fun i hi => ?_)
    rw [mix_len lB lF hc] at hi
    unfold mixL
    rcases Nat.lt_or_ge i c with h | h
    · rw [getD_left (by rw [List.length_take]; omega), getD_take h, ← f8, addZ_get lz (by omega), getD_left (by rw [List.length_replicate]; exact h)]
      have : (List.replicate c (0 : Int)).getD i 0 = 0 := by simp [List.getD, h]
      omega
    · have hl : ((splitB l part least q).take c).length = c := by rw [List.length_take]; omega
      simp [List.getD, List.getElem?_append_right (show ((splitB l part least q).take c).length ≤ i by omega), hl, show c + (i - c) = i by omega]
  · rw [← f8, addZ_get lz (by omega)]
    congr 1
    simp [List.getD, List.getElem?_append_right]
theorem splitB_len {l : List Int} (part least q : Int) : (splitB l part least q).length = l.length := by
  unfold splitB; rw [addZ_len (by rw [plainB_len, subZ_len (fillF_len _ _), fill_len]), fill_len]
theorem splitB_eq (l : List Int) (part least q : Int) : splitB l part least q = addZ (fillL l (earlyK part q)) (plainB (subZ l (fillL l (earlyK part q))) least (q - earlyK part q)) := rfl
theorem restS_nonneg {l : List Int} {K : Int} (h : ∀ x ∈ l, 0 ≤ x) (hK : 0 ≤ K) : ∀ x ∈ subZ l (fillL l K), 0 ≤ x := fun y hy => by
  obtain ⟨k, hk, rfl⟩ := subZ_mem (fillF_len _ _) hy
  have := fillF_fit h hK hk
  omega
section
variable {l : List Int} {part least q : Int}
/-- Each has what the part by arrival gives it, and no more than its quantity; together they have what is shared. -/
theorem splitB_fit (h : ∀ x ∈ l, 0 ≤ x) (hq : 0 ≤ q) (hs : q ≤ sumL l) (hp : 0 ≤ part) (hp2 : part ≤ 100) {k : Nat} (hk : k < l.length) :
    0 ≤ (fillL l (earlyK part q)).getD k 0 ∧ (fillL l (earlyK part q)).getD k 0 ≤ (splitB l part least q).getD k 0 ∧ (splitB l part least q).getD k 0 ≤ l.getD k 0 := by
  obtain ⟨k1, k2⟩ := early_fit hp hp2 hq
  have f := fillF_fit h k1 hk
  have sF := fill_all l _ h k1 (by omega)
  have sS : sumL (subZ l (fillL l (earlyK part q))) = sumL l - earlyK part q := by rw [subZ_sum (fillF_len _ _), sF]
  have lS := subZ_len (fillF_len l (earlyK part q))
  rw [splitB_eq, addZ_get (by rw [plainB_len, lS, fill_len]) (by rw [fill_len]; exact hk)]
  have a := plainB_fit (least := least) (restS_nonneg h k1) (q := q - earlyK part q) (by omega) (by omega) (k := k) (by rw [lS]; exact hk)
  have b := by_fit (least := least) (restS_nonneg h k1) (q := q - earlyK part q) (by omega) (by omega) (k := k) (by rw [lS]; exact hk)
  rw [subZ_get (fillF_len _ _) hk] at a
  omega
theorem splitB_sum (h : ∀ x ∈ l, 0 ≤ x) (hq : 0 ≤ q) (hs : q ≤ sumL l) (hp : 0 ≤ part) (hp2 : part ≤ 100) : sumL (splitB l part least q) = q := by
  obtain ⟨k1, k2⟩ := early_fit hp hp2 hq
  have sF := fill_all l _ h k1 (by omega)
  have sS : sumL (subZ l (fillL l (earlyK part q))) = sumL l - earlyK part q := by rw [subZ_sum (fillF_len _ _), sF]
  have lS := subZ_len (fillF_len l (earlyK part q))
  rw [splitB_eq, addZ_sum (by rw [plainB_len, lS, fill_len]), sF, plainB_sum (restS_nonneg h k1) (by omega) (by omega)]
  omega
theorem split_mem (l : List Int) (part least q : Int) : ∀ y ∈ splitL l part least q, 0 ≤ y ∧ y ≤ 1000000 := by
  rcases split_case l part least q with e | ⟨hR, hp, hp2, hm⟩
  · rw [e]; intro y hy; cases hy
  · rw [split_yes hR hp hp2 hm]
    obtain ⟨a1, a2, a3, a4⟩ := (right_iff _ _).1 hR
    intro y hy
    obtain ⟨k, hk, rfl⟩ := mem_getD hy
    rw [splitB_len] at hk
    have a := splitB_fit (least := least) (fun x hx => by have := a2 x hx; omega) a3 a4 hp hp2 hk
    have c := a2 _ (getD_mem hk)
    omega
theorem split_few (l : List Int) (part least q : Int) : (splitL l part least q).length ≤ 250 := by
  rcases split_case l part least q with e | ⟨hR, hp, hp2, hm⟩
  · rw [e]; simp
  · rw [split_yes hR hp hp2 hm, splitB_len]
    exact ((right_iff _ _).1 hR).1
/-- What the law SplitRules asks. -/
theorem rules_split (hR : rightL l q = true) (hp : 0 ≤ part) (hp2 : part ≤ 100) (hm : 1 ≤ least) :
    (splitL l part least q).length = l.length ∧ sumL (splitL l part least q) = q ∧ (shareL l (earlyK part q)).length = l.length ∧
    ∀ i, i < l.length → (shareL l (earlyK part q)).getD i 0 ≤ (splitL l part least q).getD i 0 ∧ (splitL l part least q).getD i 0 ≤ l.getD i 0 := by
  obtain ⟨a1, a2, a3, a4⟩ := (right_iff _ _).1 hR
  have h0 : ∀ x ∈ l, 0 ≤ x := fun x hx => by have := a2 x hx; omega
  obtain ⟨k1, k2⟩ := early_fit hp hp2 a3
  have hR2 : rightL l (earlyK part q) = true := (right_iff _ _).2 ⟨a1, a2, k1, by omega⟩
  rw [split_yes hR hp hp2 hm, share_yes hR2]
  exact ⟨splitB_len _ _ _, splitB_sum h0 a3 a4 hp hp2, fill_len _ _, fun i hi => (splitB_fit h0 a3 a4 hp hp2 hi).2⟩
theorem zeros_of {m : List Int} (h : ∀ x ∈ m, 0 ≤ x) (hs : sumL m = 0) : m = List.replicate m.length 0 := by
  refine ext_getD (by simp) (fun i hi => ?_)
  have a := sum_ge h hi
  have b := nonneg_get h hi
  have c : (List.replicate m.length (0 : Int)).getD i 0 = 0 := by simp [List.getD, hi]
  omega
theorem add_zeros (m : List Int) : addZ m (List.replicate m.length 0) = m := by
  refine ext_getD (by rw [addZ_len (by simp)]) (fun i hi => ?_)
  rw [addZ_len (by simp)] at hi
  rw [addZ_get (by simp) hi]
  simp [List.getD, hi]
/-- A part of all is by arrival. -/
theorem split_all (hm : 1 ≤ least) : splitL l 100 least q = shareL l q := by
  cases e : rightL l q with
  | false => rw [split_no (by rw [e]; rfl), share_no e]
  | true =>
    obtain ⟨a1, a2, a3, a4⟩ := (right_iff _ _).1 e
    have h0 : ∀ x ∈ l, 0 ≤ x := fun x hx => by have := a2 x hx; omega
    rw [split_yes e (by omega) (by omega) hm, share_yes e, splitB_eq, early_all, Int.sub_self]
    have nn := restS_nonneg (K := q) h0 a3
    have lS := subZ_len (fillF_len l q)
    have lP := plainB_len (subZ l (fillL l q)) least 0
    have sP := plainB_sum (least := least) nn (Int.le_refl 0) (sum_nonneg nn)
    have nP : ∀ x ∈ plainB (subZ l (fillL l q)) least 0, 0 ≤ x := fun x hx => by
      obtain ⟨k, hk, rfl⟩ := mem_getD hx
      rw [lP] at hk
      have a := plainB_fit (least := least) nn (Int.le_refl 0) (sum_nonneg nn) hk
      have b := by_fit (least := least) nn (Int.le_refl 0) (sum_nonneg nn) hk
      omega
    have z := zeros_of nP sP
    rw [lP, lS, ← fill_len l q] at z
    rw [z, add_zeros]
/-- A part of nothing is by size. -/
theorem split_none (hm : 1 ≤ least) : splitL l 0 least q = plainL l least q := by
  cases e : rightL l q with
  | false => rw [split_no (by rw [e]; rfl), plain_no (by rw [e]; rfl)]
  | true =>
    obtain ⟨a1, a2, a3, a4⟩ := (right_iff _ _).1 e
    have h0 : ∀ x ∈ l, 0 ≤ x := fun x hx => by have := a2 x hx; omega
    rw [split_yes e (by omega) (by omega) hm, plain_yes e hm, splitB_eq, early_none, Int.sub_zero]
    have nF : ∀ x ∈ fillL l 0, 0 ≤ x := fun x hx => by
      obtain ⟨k, hk, rfl⟩ := mem_getD hx
      rw [fill_len] at hk
      exact (fillF_fit h0 (Int.le_refl 0) hk).1
    have z := zeros_of nF (fill_all l 0 h0 (Int.le_refl 0) (sum_nonneg h0))
    rw [fill_len] at z
    rw [z, sub_zeros]
    have := zeros_add (plainB l least q)
    rw [plainB_len] at this
    exact this
/-- All of it is all. -/
theorem full_of {m : List Int} (hl : m.length = l.length) (hf : ∀ i, i < l.length → m.getD i 0 ≤ l.getD i 0) (hs : sumL m = sumL l) : m = l := by
  have n0 : ∀ x ∈ subZ l m, 0 ≤ x := fun x hx => by
    obtain ⟨k, hk, rfl⟩ := subZ_mem hl.symm hx
    have := hf k hk; omega
  have z := zeros_of n0 (by rw [subZ_sum hl.symm]; omega)
  refine ext_getD hl (fun i hi => ?_)
  rw [hl] at hi
  have a := subZ_get hl.symm hi
  rw [z] at a
  have c : (List.replicate (subZ l m).length (0 : Int)).getD i 0 = 0 := by simp [List.getD, subZ_len hl.symm, hi]
  omega
theorem split_full (hR : rightL l q = true) (hp : 0 ≤ part) (hp2 : part ≤ 100) (hm : 1 ≤ least) (e : q = sumL l) : splitL l part least q = l := by
  obtain ⟨b1, b2, b3, b4⟩ := rules_split (least := least) hR hp hp2 hm
  exact full_of b1 (fun i hi => (b4 i hi).2) (by omega)
theorem split_one {z k : Int} (hz : 1 ≤ z) (hz2 : z ≤ 1000000) (hk : 0 ≤ k) (hk2 : k ≤ z) (hp : 0 ≤ part) (hp2 : part ≤ 100) (hm : 1 ≤ least) : splitL [z] part least k = [k] := by
  have hR : rightL [z] k = true := (right_iff _ _).2 ⟨by simp, by simp; omega, hk, by simp [sumL]; omega⟩
  obtain ⟨b1, b2, b3, b4⟩ := rules_split (least := least) hR hp hp2 hm
  match h : splitL [z] part least k, b1, b2 with
  | [x], _, b2 => simp only [sumL] at b2; rw [show x = k by omega]
/-- Of two equal orders the first has no less. -/
theorem split_two {z k : Int} (hz : 1 ≤ z) (hz2 : z ≤ 1000000) (hk : 0 ≤ k) (hk2 : k ≤ 2 * z) (hp : 0 ≤ part) (hp2 : part ≤ 100) (hm : 1 ≤ least) :
    ∃ x y, splitL [z, z] part least k = [x, y] ∧ y ≤ x ∧ x + y = k ∧ 0 ≤ y ∧ x ≤ z := by
  have hR : rightL [z, z] k = true := (right_iff _ _).2 ⟨by simp, by simp; omega, hk, by simp [sumL]; omega⟩
  obtain ⟨a1, a2, a3, a4⟩ := (right_iff _ _).1 hR
  have h0 : ∀ x ∈ [z, z], 0 ≤ x := fun x hx => by have := a2 x hx; omega
  obtain ⟨k1, k2⟩ := early_fit hp hp2 hk
  obtain ⟨b1, b2, b3, b4⟩ := rules_split (least := least) hR hp hp2 hm
  have c0 := splitB_fit (least := least) h0 a3 a4 hp hp2 (show 0 < [z, z].length by simp)
  have c1 := splitB_fit (least := least) h0 a3 a4 hp hp2 (show 1 < [z, z].length by simp)
  have g0 : (splitB [z, z] part least k).getD 0 0 = (fillL [z, z] (earlyK part k)).getD 0 0 + (plainB (subZ [z, z] (fillL [z, z] (earlyK part k))) least (k - earlyK part k)).getD 0 0 := by
    rw [splitB_eq, addZ_get (by rw [plainB_len, subZ_len (fillF_len _ _), fill_len]) (by rw [fill_len]; simp)]
  have g1 : (splitB [z, z] part least k).getD 1 0 = (fillL [z, z] (earlyK part k)).getD 1 0 + (plainB (subZ [z, z] (fillL [z, z] (earlyK part k))) least (k - earlyK part k)).getD 1 0 := by
    rw [splitB_eq, addZ_get (by rw [plainB_len, subZ_len (fillF_len _ _), fill_len]) (by rw [fill_len]; simp)]
  rw [split_yes hR hp hp2 hm] at b1 b2 b4 ⊢
  generalize earlyK part k = K at *
  have eF : fillL [z, z] K = [min z K, min z (K - min z K)] := by rw [fill_cons, fill_cons]; with_unfolding_all rfl
  have eS : subZ [z, z] (fillL [z, z] K) = [z - min z K, z - min z (K - min z K)] := by rw [eF]; with_unfolding_all rfl
  rw [eS] at g0 g1
  rw [eF] at g0 g1 c0 c1
  simp only [List.getD_cons_zero, List.getD_cons_succ] at g0 g1 c0 c1
  match h : splitB [z, z] part least k, b1, b2 with
  | [x, y], _, b2 =>
    rw [h] at g0 g1 c0 c1
    simp only [List.getD_cons_zero, List.getD_cons_succ] at g0 g1 c0 c1
    simp only [sumL] at b2
    refine ⟨x, y, rfl, ?_, by omega, by omega, by omega⟩
    rcases (show z ≤ K ∨ K < z by omega) with hz3 | hz3
    · omega
    · have e0 : min z K = K := by omega
      have e1 : min z (K - K) = 0 := by omega
      rw [e0, e1, Int.sub_zero] at g0 g1
      have nn : ∀ x ∈ [z - K, z], 0 ≤ x := fun x hx => by simp at hx; omega
      have sm : sumL [z - K, z] = 2 * z - K := by simp [sumL]; omega
      have p0 := plainB_get (least := least) (q := k - K) (l := [z - K, z]) (k := 0) (by simp)
      have p1 := plainB_get (least := least) (q := k - K) (l := [z - K, z]) (k := 1) (by simp)
      have y1 := by_get [z - K, z] least (k - K) (k := 1) (by simp)
      have y0 := by_fit (least := least) nn (q := k - K) (by omega) (by omega) (k := 0) (by simp)
      have ys := by_sum (least := least) nn (q := k - K) (by omega) (by omega)
      have fit := byK_fit (A := 2 * z - K) (q := k - K) (least := least) (x := z) (by omega) (by omega) (by omega)
      rw [sm] at y1
      have lB := by_len [z - K, z] least (k - K)
      match hB : byL [z - K, z] least (k - K), lB with
      | [u, v], _ =>
        rw [hB] at p0 p1 y1 y0 ys
        simp only [List.getD_cons_zero, List.getD_cons_succ, sumL] at p0 p1 y1 y0 ys
        have eR : subZ [z - K, z] [u, v] = [z - K - u, z - v] := by with_unfolding_all rfl
        rw [eR, fill_cons, fill_cons] at p0 p1
        simp only [List.getD_cons_zero, List.getD_cons_succ] at p0 p1
        rw [← y1] at fit
        obtain ⟨v0, v1, v2⟩ := fit
        have big : 2 * v ≤ k := by
          have m1 : (2 * z - K) * v ≤ z * (k - K) := by
            have e := Int.mul_ediv_add_emod (z * (k - K)) (2 * z - K)
            have e2 := Int.emod_nonneg (z * (k - K)) (show 2 * z - K ≠ 0 by omega)
            have e3 := Int.mul_le_mul_of_nonneg_left v2 (show 0 ≤ 2 * z - K by omega)
            omega
          have m2 : 0 ≤ K * (2 * z - k) := Int.mul_nonneg k1 (by omega)
          have m3 : (2 * z - K) * (2 * v) ≤ (2 * z - K) * k := by
            have e1 : (2 * z - K) * (2 * v) = 2 * ((2 * z - K) * v) := by rw [← Int.mul_assoc, Int.mul_comm (2 * z - K) 2, Int.mul_assoc]
            have e2 : (2 * z - K) * k = 2 * (z * (k - K)) + K * (2 * z - k) := by
              simp only [Int.sub_mul, Int.mul_sub, Int.mul_assoc]
              have : K * (2 * z) = 2 * (z * K) := by rw [Int.mul_comm K, Int.mul_assoc]
              omega
            omega
          exact Int.le_of_mul_le_mul_left m3 (by omega)
        omega
end
theorem known_c : splitL [10, 10] 50 1 10 = [7, 3] := by kernel_rfl
attribute [irreducible] earlyK splitB splitL
end Go.Proofs.Ytabogoonbapjiaa
