/-
  Plain facts of BookTops: who is the top of a side.
-/
import Derived.Test.YtlknlicokacoiaaBkKnown
namespace Go.Proofs.Ytlknlicokacoiaa
open Go.RowKit
set_option linter.unusedVariables false
set_option linter.unusedSimpArgs false

theorem bet_over {s a b c : Int} (h : bet s a b = true) (k : bet s c b = false) : bet s a c = true := by unfold bet at *; split at h <;> simp_all <;> omega
theorem ladStep_head (s : Int) (out : List Lv) (x : Or) : (ladStep s out x).head?.map Lv.p = (out.head?.map Lv.p).or (if x.s = s then some x.p else none) := by
  unfold ladStep
  by_cases h : x.s = s
  · rw [if_neg (by simpa using h), if_pos h]
    rcases List.eq_nil_or_concat out with rfl | ⟨o, y, ho⟩
    · rfl
    · have ho' : out = o ++ [y] := by simpa using ho
      subst ho'
      rw [List.getLast?_concat]
      simp only
      by_cases hp : y.p = x.p
      · rw [if_pos hp, List.dropLast_concat]; cases o <;> rfl
      · rw [if_neg hp]; cases o <;> rfl
  · rw [if_pos (by simpa using h), if_neg h]; simp
theorem lad_head (s : Int) : ∀ (L : List Or) (out : List Lv), (L.foldl (ladStep s) out).head?.map Lv.p = (out.head?.map Lv.p).or ((L.find? (fun x => decide (x.s = s))).map Or.p) := by
  intro L
  induction L with
  | nil => intro out; simp
  | cons x L ih =>
    intro out
    rw [List.foldl_cons, ih, ladStep_head, List.find?_cons]
    by_cases h : x.s = s
    · rw [if_pos h, decide_eq_true h]; cases out.head?.map Lv.p <;> rfl
    · rw [if_neg h, decide_eq_false h]; cases out.head?.map Lv.p <;> rfl
theorem topB_best {L : List Or} (h : LOk L) (s p : Int) : topB L s p = (!(bestO L s).2 || bet s p (bestO L s).1.p) := by
  have hl := lad_head s L []
  simp only [List.head?_nil, Option.map_none, Option.none_or] at hl
  change (ladO L s).head?.map Lv.p = _ at hl
  unfold bestO
  cases hg : ladO L s with
  | nil =>
    rw [hg] at hl
    simp only [List.head?_nil, Option.map_none] at hl
    have hn : L.find? (fun x => decide (x.s = s)) = none := by
      cases hq : L.find? (fun x => decide (x.s = s)) with
      | none => rfl
      | some y => rw [hq] at hl; cases hl
    rw [List.find?_eq_none] at hn
    simp only [Bool.not_false, Bool.true_or]
    unfold topB
    rw [List.any_eq_false.2 (fun x hx => by have := hn x hx; unfold bars; simp at this ⊢; intro e; exact absurd e this)]
    rfl
  | cons y l =>
    rw [hg] at hl
    simp only [List.head?_cons, Option.map_some] at hl
    cases hq : L.find? (fun x => decide (x.s = s)) with
    | none => rw [hq] at hl; cases hl
    | some z =>
      rw [hq] at hl
      simp only [Option.map_some, Option.some.injEq] at hl
      obtain ⟨hz, A, C, hL, hA⟩ := List.find?_eq_some_iff_append.1 hq
      have hzs : z.s = s := by simpa using hz
      simp only [Bool.not_true, Bool.false_or]
      rw [hl]
      unfold topB
      cases hb : bet s p z.p with
      | true =>
        rw [List.any_eq_false.2 (fun x hx => ?_)]; rfl
        unfold bars
        by_cases hxs : x.s = s
        · have : bet s p x.p = true := by
            rw [hL] at hx
            rcases List.mem_append.1 hx with k | k
            · have := hA x k; simp [hxs] at this
            · rcases List.mem_cons.1 k with rfl | k
              · exact hb
              · have hs := h.sort
                rw [hL, List.pairwise_append] at hs
                rcases (List.pairwise_cons.1 hs.2.1).1 x k with e | ⟨_, e⟩
                · omega
                · rw [hzs] at e; exact bet_over hb e
          simp [this]
        · simp [hxs]
      | false =>
        rw [List.any_eq_true.2 ⟨z, by rw [hL]; simp, by unfold bars; simp [hzs, hb]⟩]; rfl
def tOf (t1 t2 s : Int) : Int := if s = 1 then t1 else t2
/-- What a book of this law holds behind i asks; t1, t2: its tops. -/
structure Tp (i : Nat) (L : List Or) (t1 t2 : Int) : Prop where
  fit : ∀ x ∈ L, 1 ≤ x.i ∧ x.i ≤ i ∧ x.n = 5
  side : ∀ x ∈ L, x.s = 1 ∨ x.s = 2
  len : L.length ≤ i
  flag : ∀ x ∈ L, x.t = (tOf t1 t2 x.s == x.i)
  a1 : 0 ≤ t1 ∧ t1 ≤ i
  a2 : 0 ≤ t2 ∧ t2 ≤ i
theorem mem_insO {L : List Or} {i s p n : Int} {x : Or} (h : x ∈ insO L i s p n) : x = ⟨i, s, p, n, topB L s p⟩ ∨ x ∈ clrL L s p := by
  unfold insO at h
  rcases List.mem_append.1 h with k | k
  · exact .inr ((List.takeWhile_sublist _).subset k)
  · rcases List.mem_cons.1 k with k | k
    · exact .inl k
    · exact .inr ((List.dropWhile_sublist _).subset k)
theorem len_insO (L : List Or) (i s p n : Int) : (insO L i s p n).length = L.length + 1 := by
  unfold insO
  rw [List.length_append, List.length_cons]
  have h := congrArg List.length (List.takeWhile_append_dropWhile (p := ahead s p) (l := clrL L s p))
  rw [List.length_append] at h
  have h2 : (clrL L s p).length = L.length := by unfold clrL; split <;> simp
  omega
theorem mem_clrL {L : List Or} {s p : Int} {x : Or} (h : x ∈ clrL L s p) : (topB L s p = false ∧ x ∈ L) ∨ (topB L s p = true ∧ ∃ y ∈ L, x = clr s y) := by
  unfold clrL at h
  cases ht : topB L s p with
  | true =>
    rw [ht, if_pos rfl] at h
    obtain ⟨y, hy, e⟩ := List.mem_map.1 h
    exact .inr ⟨rfl, y, hy, e.symm⟩
  | false =>
    rw [ht, if_neg (by simp)] at h
    exact .inl ⟨rfl, h⟩
theorem Tp.add {i : Nat} {L : List Or} {t1 t2 : Int} (h : Tp i L t1 t2) (hi : i < 60) {s : Int} (hs : s = 1 ∨ s = 2) (p : Int) :
    addO L ((i : Int) + 1) s p 5 = (0, insO L ((i : Int) + 1) s p 5) ∧ Tp (i + 1) (insO L ((i : Int) + 1) s p 5) (if topB L s p = true ∧ s = 1 then (i : Int) + 1 else t1) (if topB L s p = true ∧ s = 2 then (i : Int) + 1 else t2) := by
  constructor
  · unfold addO
    rw [if_neg (fun c => c hs), if_neg (by omega), hasI_no (fun x hx => by have := (h.fit x hx).2.1; omega), if_neg (by simp), if_neg (by have := h.len; omega)]
  · have hb := h.a1
    have hb2 := h.a2
    refine ⟨fun x hx => ?_, fun x hx => ?_, by rw [len_insO]; have := h.len; omega, fun x hx => ?_, ?_, ?_⟩
    · rcases mem_insO hx with rfl | k
      · exact ⟨by show (1 : Int) ≤ (i : Int) + 1; omega, by show (i : Int) + 1 ≤ ((i + 1 : Nat) : Int); omega, rfl⟩
      · rcases mem_clrL k with ⟨_, k⟩ | ⟨_, y, m, rfl⟩
        · obtain ⟨a, b, c⟩ := h.fit x k; exact ⟨a, by push_cast; omega, c⟩
        · obtain ⟨a, b, c⟩ := h.fit y m
          rw [clr_i, clr_n]; exact ⟨a, by push_cast; omega, c⟩
    · rcases mem_insO hx with rfl | k
      · exact hs
      · rcases mem_clrL k with ⟨_, k⟩ | ⟨_, y, m, rfl⟩
        · exact h.side x k
        · rw [clr_s]; exact h.side y m
    · rcases mem_insO hx with rfl | k
      · show topB L s p = _
        cases ht : topB L s p with
        | true => rcases hs with rfl | rfl <;> simp [tOf]
        | false =>
          rcases hs with rfl | rfl
          · simp [tOf]; omega
          · simp [tOf]; omega
      · rcases mem_clrL k with ⟨ht, k⟩ | ⟨ht, y, m, rfl⟩
        · rw [h.flag x k, ht]; simp
        · obtain ⟨a, b, c⟩ := h.fit y m
          have hf := h.flag y m
          rw [clr_s, clr_i, ht]
          by_cases hy : y.s = s
          · rw [show (clr s y).t = false by unfold clr; rw [if_pos hy], hy]
            rcases hs with rfl | rfl
            · simp [tOf]; omega
            · simp [tOf]; omega
          · rw [show (clr s y).t = y.t by unfold clr; rw [if_neg hy], hf]
            rcases hs with rfl | rfl
            · simp [tOf, hy]
            · simp only [tOf]
              by_cases h1 : y.s = 1
              · simp [h1]
              · have := (show y.s ≠ 2 from hy)
                rcases h.side y m with e | e
                · exact absurd e h1
                · exact absurd e this
    · split <;> (push_cast; omega)
    · split <;> (push_cast; omega)
theorem Tp.fill {i : Nat} {L : List Or} {t1 t2 : Int} (h : Tp i L t1 t2) (d : Int) : Tp (i + 1) (fillO L d 5).2 t1 t2 := by
  have hsub : ∀ x ∈ (fillO L d 5).2, x ∈ L := by
    unfold fillO
    split
    · exact fun x hx => hx
    · rename_i A e C hc
      obtain ⟨hL, -, -⟩ := cutO_some hc
      have he := (h.fit e (by rw [hL]; simp)).2.2
      rw [if_neg (by omega), if_pos (by omega)]
      intro x hx
      rw [hL]
      rcases List.mem_append.1 hx with k | k
      · simp [k]
      · simp [k]
  have hlen : (fillO L d 5).2.length ≤ L.length := by
    unfold fillO
    split
    · exact Nat.le_refl _
    · rename_i A e C hc
      obtain ⟨hL, -, -⟩ := cutO_some hc
      have he := (h.fit e (by rw [hL]; simp)).2.2
      rw [if_neg (by omega), if_pos (by omega), hL]
      simp
  refine ⟨fun x hx => ?_, fun x hx => h.side x (hsub x hx), by have := h.len; omega, fun x hx => h.flag x (hsub x hx), ⟨h.a1.1, by have := h.a1.2; push_cast; omega⟩, ⟨h.a2.1, by have := h.a2.2; push_cast; omega⟩⟩
  obtain ⟨a, b, c⟩ := h.fit x (hsub x hx)
  exact ⟨a, by push_cast; omega, c⟩
theorem tp_zero : Tp 0 [] 0 0 := ⟨fun x hx => (by cases hx), fun x hx => (by cases hx), Nat.le_refl _, fun x hx => (by cases hx), ⟨Int.le_refl _, Int.le_refl _⟩, ⟨Int.le_refl _, Int.le_refl _⟩⟩
end Go.Proofs.Ytlknlicokacoiaa
