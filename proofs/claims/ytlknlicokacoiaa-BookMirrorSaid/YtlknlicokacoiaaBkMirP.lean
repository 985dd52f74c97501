/-
  Plain facts of BookMirror: two lists, side by side each other's mirror, stay so through Add and Fill, and tell mirrored ladders and levels.
-/
import Derived.Test.YtlknlicokacoiaaBkRulesQ
namespace Go.Proofs.Ytlknlicokacoiaa
open Go.RowKit
set_option linter.unusedVariables false
set_option linter.unusedSimpArgs false

def mo (x : Or) : Or := ⟨x.i, 3 - x.s, -x.p, x.n, x.t⟩
def ml (y : Lv) : Lv := ⟨-y.p, y.n, y.c⟩
def sid (s : Int) (L : List Or) : List Or := L.filter (fun x => decide (x.s = s))
theorem mem_sid {s : Int} {L : List Or} {x : Or} : x ∈ sid s L ↔ x ∈ L ∧ x.s = s := by unfold sid; rw [List.mem_filter]; simp
structure Mir (L K : List Or) : Prop where
  eqv : ∀ s, s = 1 ∨ s = 2 → sid (3 - s) K = (sid s L).map mo
  low : ∀ x ∈ L, -4 ≤ x.p ∧ x.p ≤ 4
theorem lad_sid_from (s : Int) : ∀ (L : List Or) (out : List Lv), L.foldl (ladStep s) out = (sid s L).foldl (ladStep s) out := by
  intro L
  induction L with
  | nil => intro out; rfl
  | cons x L ih =>
    intro out
    rw [List.foldl_cons]
    by_cases h : x.s = s
    · rw [show sid s (x :: L) = x :: sid s L by unfold sid; rw [List.filter_cons, if_pos (by simpa using h)], List.foldl_cons]
      exact ih _
    · rw [show sid s (x :: L) = sid s L by unfold sid; rw [List.filter_cons, if_neg (by simpa using h)], show ladStep s out x = out by unfold ladStep; rw [if_pos (by simpa using h)]]
      exact ih _
theorem lad_sid (s : Int) (L : List Or) : ladO L s = ladO (sid s L) s := lad_sid_from s L []
theorem ladStep_mir (s : Int) (out : List Lv) (x : Or) : ladStep (3 - s) (out.map ml) (mo x) = (ladStep s out x).map ml := by
  unfold ladStep
  by_cases h : x.s = s
  · have h1 : (mo x).s = 3 - s := by unfold mo; simp only; omega
    rw [if_neg (by simpa using h1), if_neg (by simpa using h), List.getLast?_map]
    cases hl : out.getLast? with
    | none => simp [ml, mo]
    | some y =>
      simp only [Option.map_some]
      by_cases hp : y.p = x.p
      · rw [if_pos hp, if_pos (by unfold ml mo; simp only; omega)]
        simp [ml, mo, List.map_dropLast]
      · rw [if_neg hp, if_neg (by unfold ml mo; simp only; omega)]
        simp [ml, mo]
  · have h1 : (mo x).s ≠ 3 - s := by unfold mo; simp only; omega
    rw [if_pos (by simpa using h1), if_pos (by simpa using h)]
theorem lad_mir_from (s : Int) : ∀ (L : List Or) (out : List Lv), (L.map mo).foldl (ladStep (3 - s)) (out.map ml) = (L.foldl (ladStep s) out).map ml := by
  intro L
  induction L with
  | nil => intro out; rfl
  | cons x L ih => intro out; rw [List.map_cons, List.foldl_cons, List.foldl_cons, ladStep_mir]; exact ih _
theorem Mir.lad {L K : List Or} (h : Mir L K) {s : Int} (hs : s = 1 ∨ s = 2) : ladO K (3 - s) = (ladO L s).map ml := by
  rw [lad_sid (3 - s) K, lad_sid s L, h.eqv s hs]
  exact lad_mir_from s _ []
theorem at_sid (L : List Or) (s p : Int) : atO L s p = (sid s L).filter (fun x => decide (x.p = p)) := by
  unfold atO sid
  rw [List.filter_filter]
  congr 1
  funext x
  rw [Bool.and_comm]
theorem Mir.at' {L K : List Or} (h : Mir L K) {s : Int} (hs : s = 1 ∨ s = 2) (p : Int) : atO K (3 - s) (-p) = (atO L s p).map mo := by
  rw [at_sid, at_sid, h.eqv s hs, List.filter_map]
  congr 1
  apply List.filter_congr
  intro x hx
  show decide ((mo x).p = -p) = decide (x.p = p)
  unfold mo
  simp only
  by_cases hp : x.p = p
  · simp [hp]
  · rw [decide_eq_false hp, decide_eq_false (by omega)]
/-- What stands in the one stands, turned, in the other. -/
theorem Mir.mem {L K : List Or} (h : Mir L K) (hL : LOk L) {x : Or} (hx : x ∈ L) : mo x ∈ K := by
  have hs := (hL.fit x hx).1
  have : mo x ∈ sid (3 - x.s) K := by rw [h.eqv _ hs]; exact List.mem_map.2 ⟨x, mem_sid.2 ⟨hx, rfl⟩, rfl⟩
  exact (mem_sid.1 this).1
theorem Mir.mem' {L K : List Or} (h : Mir L K) (hK : LOk K) {z : Or} (hz : z ∈ K) : ∃ x ∈ L, z = mo x := by
  have hs := (hK.fit z hz).1
  have h1 : z ∈ sid (3 - (3 - z.s)) K := mem_sid.2 ⟨hz, by omega⟩
  rw [h.eqv (3 - z.s) (by omega)] at h1
  obtain ⟨x, hx, e⟩ := List.mem_map.1 h1
  exact ⟨x, (mem_sid.1 hx).1, e.symm⟩
theorem len_sid {L : List Or} (h : LOk L) : (sid 1 L).length + (sid 2 L).length = L.length := by
  have := two_sides h
  unfold sid
  omega
theorem Mir.len {L K : List Or} (h : Mir L K) (hL : LOk L) (hK : LOk K) : K.length = L.length := by
  rw [← len_sid hL, ← len_sid hK]
  have h1 := congrArg List.length (h.eqv 1 (.inl rfl))
  have h2 := congrArg List.length (h.eqv 2 (.inr rfl))
  rw [List.length_map] at h1 h2
  rw [show (3 : Int) - 1 = 2 by decide] at h1
  rw [show (3 : Int) - 2 = 1 by decide] at h2
  omega
theorem Mir.has {L K : List Or} (h : Mir L K) (hL : LOk L) (hK : LOk K) (i : Int) : hasI K i = hasI L i := by
  by_cases e : ∃ x ∈ L, x.i = i
  · obtain ⟨x, hx, hi⟩ := e
    rw [hasI_yes hx hi, hasI_yes (h.mem hL hx) (show (mo x).i = i from hi)]
  · rw [hasI_no (fun x hx k => e ⟨x, hx, k⟩), hasI_no (fun z hz k => by
      obtain ⟨x, hx, rfl⟩ := h.mem' hK hz
      exact e ⟨x, hx, k⟩)]
theorem bet_mir {s : Int} (hs : s = 1 ∨ s = 2) (p q : Int) : bet (3 - s) (-p) (-q) = bet s p q := by
  rcases hs with rfl | rfl
  · rw [show (3 : Int) - 1 = 2 by decide, bet_two _ _ (by decide), bet_one]
    by_cases h : q < p
    · rw [decide_eq_true h, decide_eq_true (by omega)]
    · rw [decide_eq_false h, decide_eq_false (by omega)]
  · rw [show (3 : Int) - 2 = 1 by decide, bet_one, bet_two _ _ (by decide)]
    by_cases h : p < q
    · rw [decide_eq_true h, decide_eq_true (by omega)]
    · rw [decide_eq_false h, decide_eq_false (by omega)]
theorem bars_mir {s : Int} (hs : s = 1 ∨ s = 2) (p : Int) (x : Or) : bars (3 - s) (-p) (mo x) = bars s p x := by
  unfold bars mo
  simp only
  rw [bet_mir hs]
  by_cases h : x.s = s
  · rw [decide_eq_true h, decide_eq_true (by omega)]
  · rw [decide_eq_false h, decide_eq_false (by omega)]
theorem Mir.top {L K : List Or} (h : Mir L K) (hL : LOk L) (hK : LOk K) {s : Int} (hs : s = 1 ∨ s = 2) (p : Int) : topB K (3 - s) (-p) = topB L s p := by
  unfold topB
  congr 1
  by_cases e : ∃ x ∈ L, bars s p x = true
  · obtain ⟨x, hx, hb⟩ := e
    rw [List.any_eq_true.2 ⟨x, hx, hb⟩, List.any_eq_true.2 ⟨mo x, h.mem hL hx, by rw [bars_mir hs]; exact hb⟩]
  · rw [List.any_eq_false.2 (fun x hx k => e ⟨x, hx, k⟩), List.any_eq_false.2 (fun z hz k => by
      obtain ⟨x, hx, rfl⟩ := h.mem' hK hz
      rw [bars_mir hs] at k
      exact e ⟨x, hx, k⟩)]
def ord (a b : Or) : Prop := a.s ≤ b.s
theorem sid_split {s p : Int} : ∀ {M : List Or}, M.Pairwise ord → sid s (M.takeWhile (ahead s p)) = (sid s M).takeWhile (ahead s p) ∧ sid s (M.dropWhile (ahead s p)) = (sid s M).dropWhile (ahead s p) := by
  intro M
  induction M with
  | nil => intro _; exact ⟨rfl, rfl⟩
  | cons c M ih =>
    intro h
    obtain ⟨h1, h2⟩ := ih h.of_cons
    have hc := (List.pairwise_cons.1 h).1
    rcases Int.lt_trichotomy c.s s with k | k | k
    · have ha : ahead s p c = true := by unfold ahead; simp [k]
      have hn : sid s (c :: M) = sid s M := by unfold sid; rw [List.filter_cons, if_neg (by simp; omega)]
      rw [List.takeWhile_cons, List.dropWhile_cons, if_pos ha, if_pos ha, hn]
      refine ⟨?_, h2⟩
      rw [show sid s (c :: M.takeWhile (ahead s p)) = sid s (M.takeWhile (ahead s p)) by unfold sid; rw [List.filter_cons, if_neg (by simp; omega)]]
      exact h1
    · have hy : ∀ N, sid s (c :: N) = c :: sid s N := fun N => by unfold sid; rw [List.filter_cons, if_pos (by simpa using k)]
      rw [List.takeWhile_cons, List.dropWhile_cons, hy, List.takeWhile_cons, List.dropWhile_cons]
      by_cases ha : ahead s p c = true
      · rw [if_pos ha, if_pos ha, if_pos ha, if_pos ha, hy, h1]
        exact ⟨rfl, h2⟩
      · rw [if_neg ha, if_neg ha, if_neg ha, if_neg ha, hy]
        exact ⟨rfl, rfl⟩
    · have ha : ahead s p c = false := by unfold ahead; simp; exact ⟨by omega, fun e => by omega⟩
      have hn : sid s (c :: M) = [] := List.filter_eq_nil_iff.2 (fun x hx => by
        rcases List.mem_cons.1 hx with rfl | hx
        · simp; omega
        · have h3 := hc x hx
          unfold ord at h3
          simp; omega)
      rw [List.takeWhile_cons, List.dropWhile_cons, ha, if_neg (by simp), if_neg (by simp), hn]
      exact ⟨rfl, rfl⟩
theorem sid_clr (s p : Int) (L : List Or) : sid s (clrL L s p) = if topB L s p = true then (sid s L).map (clr s) else sid s L := by
  unfold clrL
  split
  · unfold sid
    rw [List.filter_map]
    congr 1
    apply List.filter_congr
    intro x _
    show decide ((clr s x).s = s) = _
    rw [clr_s]
  · rfl
theorem sid_clr_far {s s' : Int} (p : Int) (L : List Or) (h : s' ≠ s) : sid s' (clrL L s p) = sid s' L := by
  unfold clrL
  split
  · unfold sid
    rw [List.filter_map]
    have e : (fun x : Or => decide (x.s = s')) ∘ clr s = fun x => decide (x.s = s') := by
      funext x
      show decide ((clr s x).s = s') = _
      rw [clr_s]
    rw [e]
    have : ∀ x ∈ L.filter (fun x => decide (x.s = s')), clr s x = x := fun x hx => by
      have hx' := (List.mem_filter.1 hx).2
      unfold clr
      rw [if_neg (by simp at hx'; omega)]
    rw [List.map_congr_left this, List.map_id']
  · rfl
theorem sid_ins {L : List Or} (hL : LOk L) (i s p n : Int) : sid s (insO L i s p n) = (sid s (clrL L s p)).takeWhile (ahead s p) ++ ⟨i, s, p, n, topB L s p⟩ :: (sid s (clrL L s p)).dropWhile (ahead s p) := by
  have ho : (clrL L s p).Pairwise ord := by
    refine clrL_pair (fun a b k => ?_) (hL.sort.imp (fun {a b} k => ?_))
    · unfold ord at *; rw [clr_s, clr_s]; exact k
    · unfold ord; rcases k with k | k <;> omega
  obtain ⟨h1, h2⟩ := sid_split (s := s) (p := p) ho
  rw [← h1, ← h2]
  unfold insO sid
  rw [List.filter_append, List.filter_cons, if_pos (by simp)]
theorem sid_ins_far {L : List Or} (i n p : Int) {s s' : Int} (h : s' ≠ s) : sid s' (insO L i s p n) = sid s' L := by
  rw [← sid_clr_far (s := s) p L h]
  unfold insO sid
  rw [List.filter_append, List.filter_cons, if_neg (by simp; omega), ← List.filter_append, List.takeWhile_append_dropWhile]
theorem takeWhile_mir {f g : Or → Bool} : ∀ {M : List Or}, (∀ x ∈ M, g (mo x) = f x) → (M.map mo).takeWhile g = (M.takeWhile f).map mo ∧ (M.map mo).dropWhile g = (M.dropWhile f).map mo := by
  intro M
  induction M with
  | nil => intro _; exact ⟨rfl, rfl⟩
  | cons x M ih =>
    intro h
    obtain ⟨h1, h2⟩ := ih (fun y hy => h y (by simp [hy]))
    have hx := h x (by simp)
    rw [List.map_cons, List.takeWhile_cons, List.takeWhile_cons, List.dropWhile_cons, List.dropWhile_cons, hx]
    by_cases hf : f x = true
    · rw [if_pos hf, if_pos hf, if_pos hf, if_pos hf, h1]; exact ⟨rfl, h2⟩
    · rw [if_neg hf, if_neg hf, if_neg hf, if_neg hf]; exact ⟨rfl, rfl⟩
theorem Mir.ins {L K : List Or} (h : Mir L K) (hL : LOk L) (hK : LOk K) {s : Int} (hs : s = 1 ∨ s = 2) (i n : Int) {p : Int} (hp : -4 ≤ p ∧ p ≤ 4) : Mir (insO L i s p n) (insO K i (3 - s) (-p) n) := by
  refine ⟨fun s' hs' => ?_, fun x hx => ?_⟩
  · by_cases e : s' = s
    · subst e
      rw [sid_ins hK, sid_ins hL, h.top hL hK hs]
      have hc : sid (3 - s') (clrL K (3 - s') (-p)) = (sid s' (clrL L s' p)).map mo := by
        rw [sid_clr, sid_clr, h.top hL hK hs, h.eqv s' hs]
        split
        · rw [List.map_map, List.map_map]
          apply List.map_congr_left
          intro x hx
          have hx' := (mem_sid.1 hx).2
          show clr (3 - s') (mo x) = mo (clr s' x)
          unfold clr mo
          simp only
          rw [if_pos (by omega), if_pos hx']
        · rfl
      rw [hc]
      have hm : ∀ x ∈ sid s' (clrL L s' p), ahead (3 - s') (-p) (mo x) = ahead s' p x := fun x hx => by
        have hx' := (mem_sid.1 hx).2
        unfold ahead mo
        simp only
        rw [bet_mir hs, hx']
        simp
      obtain ⟨e1, e2⟩ := takeWhile_mir hm
      rw [e1, e2, List.map_append, List.map_cons]
      rfl
    · rw [sid_ins_far i n (-p) (show 3 - s' ≠ 3 - s by omega), sid_ins_far i n p e]
      exact h.eqv s' hs'
  · rcases mem_insO hx with rfl | k
    · exact hp
    · rcases mem_clrL k with ⟨_, k⟩ | ⟨_, y, k2, rfl⟩
      · exact h.low x k
      · rw [clr_p]; exact h.low y k2
theorem Mir.add {L K : List Or} (h : Mir L K) (hL : LOk L) (hK : LOk K) {s : Int} (hs : s = 1 ∨ s = 2) (i n : Int) {p : Int} (hp : -4 ≤ p ∧ p ≤ 4) : (addO K i (3 - s) (-p) n).1 = (addO L i s p n).1 ∧ Mir (addO L i s p n).2 (addO K i (3 - s) (-p) n).2 := by
  unfold addO
  rw [if_neg (show ¬ ¬ (s = 1 ∨ s = 2) from fun k => k hs), if_neg (show ¬ ¬ (3 - s = 1 ∨ 3 - s = 2) from fun k => k (by omega)), h.has hL hK, h.len hL hK]
  split
  · exact ⟨rfl, h⟩
  · split
    · exact ⟨rfl, h⟩
    · split
      · exact ⟨rfl, h⟩
      · exact ⟨rfl, h.ins hL hK hs i n hp⟩
/-! Fill, by the ID alone. -/
def setN (i n : Int) (x : Or) : Or := if x.i = i then { x with n := n } else x
theorem cut_del {L A C : List Or} {e : Or} {i : Int} (h : cutO i L = some (A, e, C)) (hn : (L.map Or.i).Nodup) : A ++ C = L.filter (fun x => decide (x.i ≠ i)) ∧ ∀ n, A ++ { e with n := n } :: C = L.map (setN i n) := by
  obtain ⟨h1, h2, h3⟩ := cutO_some h
  subst h1
  rw [List.map_append, List.map_cons, List.nodup_append, List.nodup_cons] at hn
  have hC : ∀ x ∈ C, x.i ≠ i := fun x hx k => hn.2.1.1 (List.mem_map.2 ⟨x, hx, by rw [k, h2]⟩)
  constructor
  · rw [List.filter_append, List.filter_cons, if_neg (by simp [h2]), List.filter_eq_self.2 (fun x hx => by simpa using h3 x hx), List.filter_eq_self.2 (fun x hx => by simpa using hC x hx)]
  · intro n
    have f : ∀ l : List Or, (∀ x ∈ l, x.i ≠ i) → l.map (setN i n) = l := fun l hl => by
      have : ∀ x ∈ l, setN i n x = x := fun x hx => by unfold setN; rw [if_neg (hl x hx)]
      rw [List.map_congr_left this, List.map_id']
    rw [List.map_append, List.map_cons, f A h3, f C hC]
    congr 2
    unfold setN
    rw [if_pos h2]
theorem sid_filter (s : Int) (f : Or → Bool) (L : List Or) : sid s (L.filter f) = (sid s L).filter f := by
  unfold sid
  rw [List.filter_filter, List.filter_filter]
  congr 1
  funext x
  rw [Bool.and_comm]
theorem sid_setN (s i n : Int) (L : List Or) : sid s (L.map (setN i n)) = (sid s L).map (setN i n) := by
  unfold sid
  rw [List.filter_map]
  congr 1
  apply List.filter_congr
  intro x _
  show decide ((setN i n x).s = s) = _
  unfold setN
  split <;> rfl
theorem Mir.fill {L K : List Or} (h : Mir L K) (hL : LOk L) (hK : LOk K) (i n : Int) : (fillO K i n).1 = (fillO L i n).1 ∧ Mir (fillO L i n).2 (fillO K i n).2 := by
  unfold fillO
  cases hc : cutO i L with
  | none =>
    have : cutO i K = none := cutO_far (fun z hz k => by
      obtain ⟨x, hx, rfl⟩ := h.mem' hK hz
      exact cutO_none hc x hx k)
    rw [this]
    exact ⟨rfl, h⟩
  | some t =>
    obtain ⟨A, e, C⟩ := t
    obtain ⟨h1, h2, h3⟩ := cutO_some hc
    have he : e ∈ L := by rw [h1]; simp
    cases hd : cutO i K with
    | none => exact absurd (show (mo e).i = i from h2) (cutO_none hd _ (h.mem hL he))
    | some t =>
      obtain ⟨A', e', C'⟩ := t
      obtain ⟨k1, k2, k3⟩ := cutO_some hd
      have he' : e' ∈ K := by rw [k1]; simp
      obtain ⟨x, hx, hxe⟩ := h.mem' hK he'
      have hxi : x.i = i := by rw [hxe] at k2; exact k2
      have hxx : x = e := by
        rw [h1] at hx
        have hn := hL.ids
        rw [h1, List.map_append, List.map_cons, List.nodup_append, List.nodup_cons] at hn
        rcases List.mem_append.1 hx with k | k
        · exact absurd hxi (h3 x k)
        · rcases List.mem_cons.1 k with rfl | k
          · rfl
          · exact absurd (List.mem_map.2 ⟨x, k, by rw [hxi, h2]⟩) hn.2.1.1
      have hen : e'.n = e.n := by rw [hxe, hxx]; rfl
      obtain ⟨d1, d2⟩ := cut_del hc hL.ids
      obtain ⟨f1, f2⟩ := cut_del hd hK.ids
      simp only
      rw [hen]
      split
      · exact ⟨rfl, h⟩
      · split
        · refine ⟨rfl, fun s hs => ?_, fun x hx => h.low x ?_⟩
          · show sid (3 - s) (A' ++ C') = (sid s (A ++ C)).map mo
            rw [d1, f1, sid_filter, sid_filter, h.eqv s hs, List.filter_map]
            rfl
          · have hx' : x ∈ A ++ C := hx
            rw [d1] at hx'
            exact (List.mem_filter.1 hx').1
        · refine ⟨rfl, fun s hs => ?_, fun x hx => ?_⟩
          · show sid (3 - s) (A' ++ { e' with n := e.n - n } :: C') = (sid s (A ++ { e with n := e.n - n } :: C)).map mo
            rw [d2, f2, sid_setN, sid_setN, h.eqv s hs, List.map_map, List.map_map]
            apply List.map_congr_left
            intro x _
            show setN i (e.n - n) (mo x) = mo (setN i (e.n - n) x)
            unfold setN
            by_cases hi : x.i = i
            · rw [if_pos hi, if_pos (show (mo x).i = i from hi)]; rfl
            · rw [if_neg hi, if_neg (show ¬ (mo x).i = i from hi)]
          · have hx' : x ∈ A ++ { e with n := e.n - n } :: C := hx
            rw [d2] at hx'
            obtain ⟨y, hy, rfl⟩ := List.mem_map.1 hx'
            have := h.low y hy
            unfold setN
            split
            · exact this
            · exact this
theorem mir_nil : Mir [] [] := ⟨fun _ _ => rfl, fun x hx => (by cases hx)⟩
theorem Mir.lad_low {L K : List Or} (h : Mir L K) (hL : LOk L) {s : Int} {y : Lv} (hy : y ∈ ladO L s) : -4 ≤ y.p ∧ y.p ≤ 4 := by
  have h1 := ((lad_is hL s).each y hy).2.2
  obtain ⟨x, hx⟩ := List.exists_mem_of_ne_nil _ h1
  obtain ⟨m1, -, m3⟩ := at_mem hx
  rw [← m3]
  exact h.low x m1
end Go.Proofs.Ytlknlicokacoiaa
