/-
  Rows of texts; a report's words, plain.
-/
import Derived.Test.YtjhfgajhmenboaaDoorRepTFacts
import Derived.Test.YtjhfgajhmenboaaDoorOnly
import Derived.Test.YtjhfgajhmenboaaDoorRep
namespace Go.Proofs.YtjhfgajhmenboaaDoor
open Go.RowKit
set_option linter.unusedVariables false
set_option linter.unusedSimpArgs false

/-- The call's own row of texts. -/
def SR (w : World) (base : Nat) (v : Value) (L : List (List UInt8)) : Prop := w.ownsRow base 9 1 v L.length (L.map fun l => Value.string (str l))
theorem info_str : (Tryd.prog.info? 9).map (fun i => (i.zero, i.size, i.bytes)) = some (some (.string ByteArray.empty), 1, 16) := by kernel_rfl
theorem sr_nil (w : World) (base : Nat) : SR w base (.slice none 0 0) [] := World.ownsRow_nil w base _ _
theorem SR.only {p : Nat → Prop} {w w' : World} {base : Nat} {v : Value} {L : List (List UInt8)} (h : SR w base v L) (ho : Only p w w') (hn : ∀ k, v.ownBlock = some k → ¬ p k) : SR w' base v L := by
  refine ⟨h.1, ?_⟩
  rcases h.2 with h | ⟨g, cap, cur, rfl, h2, h3, h4⟩
  · exact .inl h
  · have hg : g < w.heap.size := (Array.getElem?_eq_some_iff.1 h3).1
    exact .inr ⟨g, cap, cur, rfl, h2, (ho.block g hg (hn g rfl)).trans h3, h4⟩
theorem SR.blk {w : World} {base : Nat} {v : Value} {L : List (List UInt8)} (h : SR w base v L) {k : Nat} (hk : v.ownBlock = some k) : base ≤ k ∧ k < w.heap.size := World.ownsRow.lt h k hk
theorem SR.slice {w : World} {base : Nat} {v : Value} {L : List (List UInt8)} (h : SR w base v L) (h0 : 0 < L.length) : ∃ g cap, v = .slice (some ⟨g, 0, none⟩) L.length cap ∧ L.length ≤ cap ∧ cap ≤ 9223372036854775807 ∧ ∀ j, j < L.length → w.cell? ⟨g, j, none⟩ = some (.string (str (L.getD j []))) := by
  rcases h.2 with ⟨rfl, e⟩ | ⟨g, cap, cur, rfl, _, _, hc, hm, _⟩
  · omega
  · simp only [maxLen] at hm
    refine ⟨g, cap, rfl, hc, by omega, fun j hj => ?_⟩
    rw [World.ownsRow.cellAt h j (by omega)]
    simp [List.getD, List.getElem?_eq_getElem hj]
section
variable {P : Program}
theorem wpList_onto_t {w : World} {ops : Array Oper} {rest : List Oper} {o : Oper} {a : Act} {Q0 : Exit → Act → World → Prop} (hgd : o.guard = none) (s x : Operand) (t : TypeId)
    (ho : o.op = .call { callee := .builtin .append, args := #[s, x], argTypes := #[t, t] })
    (base : Nat) (i : TypeInfo) (ht : P.underlying t = some (.slice 9)) (hi : P.info? 9 = some i) (hz : i.zero = some (.string ByteArray.empty)) (hsize : i.size = 1) (hby : i.bytes = 16)
    (v : Value) (xs : List (List UInt8)) (hs : a.eval s = v) (hown : SR w base v xs) (ad : Addr) (c : Nat) (e : List UInt8) (hx : a.eval x = .slice (some ad) 1 c) (hc : w.cell? ad = some (.string (str e))) (hn : xs.length ≤ 1000000) (hbase : base ≤ w.heap.size)
    (h : ∀ v' w', SR w' base v' (xs ++ [e]) → w.grownBy w' v.ownBlock → wpList P ops Q0 rest (a.put o.dst v') w') : wpList P ops Q0 (o :: rest) a w := by
  refine wpList_plain hgd fun K hK => ?_
  obtain ⟨v', w', hr, h2, h3, _, h5⟩ := run_append_own_at (P := P) w base t o.type _ i _ 1 16 ht hi hz hsize hby rfl (by omega) v _ _ hown ad 1 c [.string (str e)] rfl (fun j u hj => by
    match j, hj with
    | 0, hj =>
      simp only [List.getElem?_cons_zero, Option.some.injEq] at hj
      rw [← hj, show ad.add 0 = ad by simp [Addr.add]]
      exact hc
    | j + 1, hj => simp at hj) (fun u hu => by
    simp only [List.mem_singleton] at hu
    rw [hu]; rfl) (by simp only [maxLen]; omega) (by omega) hbase
  unfold Oper.wp execOp
  simp only [ho, resolve, invoke, builtin, Sem.run_bind, Sem.run_pure, Result.andThen_ok, List.map_toArray, List.map_cons, List.map_nil, hs, hx, hr]
  refine hK _ _ (h v' w' ?_ h3)
  unfold SR
  rw [List.length_append, List.map_append]
  exact h2
end
/-- The number that digits tell. -/
def dval (l : List UInt8) : Nat := l.foldl (fun n b => 10 * n + (b.toNat - 48)) 0
theorem dval_snoc (l : List UInt8) (b : UInt8) : dval (l ++ [b]) = 10 * dval l + (b.toNat - 48) := by unfold dval; rw [List.foldl_append]; rfl
theorem fold_le (l : List UInt8) : ∀ n : Nat, n ≤ l.foldl (fun n b => 10 * n + (b.toNat - 48)) n := by
  induction l with
  | nil => intro n; exact Nat.le_refl _
  | cons b l ih => intro n; rw [List.foldl_cons]; exact Nat.le_trans (by omega) (ih _)
theorem dval_append (x y : List UInt8) : dval x ≤ dval (x ++ y) := by unfold dval; rw [List.foldl_append]; exact fold_le y _
/-- What the first so many signs tell, a stroke left out. -/
def pval (a : List UInt8) (k : Nat) : Nat := dval ((a.take k).filter (fun b => b != 45))
theorem pval_zero (a : List UInt8) : pval a 0 = 0 := by unfold pval; rw [List.take_zero]; rfl
theorem pval_next {a : List UInt8} {k : Nat} (h : k < a.length) : pval a (k + 1) = if a.getD k 0 = 45 then pval a k else 10 * pval a k + ((a.getD k 0).toNat - 48) := by
  unfold pval
  have e : a.take (k + 1) = a.take k ++ [a.getD k 0] := by
    rw [List.take_add_one, List.getElem?_eq_getElem h]
    simp [List.getD, List.getElem?_eq_getElem h]
  rw [e, List.filter_append]
  split
  · rename_i h45; rw [h45]; simp
  · rename_i h45
    rw [List.filter_cons_of_pos (by simpa using h45), List.filter_nil, dval_snoc]
theorem pval_le (a : List UInt8) (k : Nat) : pval a k ≤ pval a a.length := by
  unfold pval
  rw [List.take_length]
  have e : a.filter (fun b => b != 45) = (a.take k).filter (fun b => b != 45) ++ (a.drop k).filter (fun b => b != 45) := by rw [← List.filter_append, List.take_append_drop]
  rw [e]
  exact dval_append _ _
theorem nDigits_lt : ∀ (k u : Nat), u < 10 ^ (k + 1) → Lib.nDigits u ≤ k + 1 := by
  intro k
  induction k with
  | zero => intro u h; rw [Lib.nDigits_small (by simpa using h)]; exact Nat.le_refl _
  | succ k ih =>
    intro u h
    by_cases hs : u < 10
    · rw [Lib.nDigits_small hs]; omega
    · rw [Lib.nDigits_big hs]
      have := ih (u / 10) (by rw [Nat.pow_succ] at h; omega)
      omega
/-- What a number's numeral is, sign by sign. -/
theorem itoa_word {n : Int} (h : I64 n) : Lib.itoa n ≠ [] ∧ (Lib.itoa n).length ≤ 20 ∧ (∀ k, k < (Lib.itoa n).length → ((Lib.itoa n).getD k 0 = 45 → k = 0) ∧ ((Lib.itoa n).getD k 0 ≠ 45 → 48 ≤ ((Lib.itoa n).getD k 0).toNat ∧ ((Lib.itoa n).getD k 0).toNat ≤ 57)) ∧
    ((Lib.itoa n).getD 0 0 = 45 ↔ n < 0) ∧ pval (Lib.itoa n) (Lib.itoa n).length = n.natAbs := by
  have dig : ∀ (u k : Nat), k < (Lib.decDigits u).length → 48 ≤ ((Lib.decDigits u).getD k 0).toNat ∧ ((Lib.decDigits u).getD k 0).toNat ≤ 57 := by
    intro u k hk
    rw [show (Lib.decDigits u).getD k 0 = (Lib.decDigits u)[k] by simp [List.getD, List.getElem?_eq_getElem hk]]
    exact (dec_digit u).1 _ (List.getElem_mem hk)
  have fil : ∀ u, (Lib.decDigits u).filter (fun b => b != 45) = Lib.decDigits u := by
    intro u
    rw [List.filter_eq_self]
    intro b hb
    have := (dec_digit u).1 b hb
    have h45 : (45 : UInt8).toNat = 45 := rfl
    simp only [bne_iff_ne, ne_eq]
    intro e
    rw [e, h45] at this
    omega
  have n45 : ∀ x : UInt8, 48 ≤ x.toNat → x ≠ 45 := fun x hx e => by
    have h45 : (45 : UInt8).toNat = 45 := rfl
    rw [e, h45] at hx
    omega
  obtain ⟨h1, h2⟩ := h
  have p19 : (10 : Nat) ^ (18 + 1) = 10000000000000000000 := by decide
  rcases itoa_ways n with ⟨u, rfl, e⟩ | ⟨u, hu, rfl, e⟩
  · rw [e]
    have hl : (Lib.decDigits u).length ≤ 19 := by rw [Lib.decDigits_length]; exact nDigits_lt 18 u (by omega)
    refine ⟨(dec_digit u).2.1, by omega, fun k hk => ⟨fun h45 => absurd h45 (n45 _ (dig u k hk).1), fun _ => dig u k hk⟩, ⟨fun h45 => absurd h45 (n45 _ (dig u 0 (List.length_pos_iff.2 (dec_digit u).2.1)).1), fun hn => by omega⟩, ?_⟩
    unfold pval
    rw [List.take_length, fil]
    show dval _ = _
    rw [show dval (Lib.decDigits u) = u from (dec_digit u).2.2]
    simp
  · rw [e]
    have hl : (Lib.decDigits u).length ≤ 19 := by rw [Lib.decDigits_length]; exact nDigits_lt 18 u (by omega)
    refine ⟨by simp, by rw [List.length_cons]; omega, fun k hk => ?_, ⟨fun _ => by omega, fun _ => rfl⟩, ?_⟩
    · cases k with
      | zero => exact ⟨fun _ => rfl, fun h45 => absurd rfl h45⟩
      | succ k =>
        have hk' : k < (Lib.decDigits u).length := by simpa using hk
        rw [show (45 :: Lib.decDigits u).getD (k + 1) 0 = (Lib.decDigits u).getD k 0 by simp [List.getD]]
        exact ⟨fun h45 => absurd h45 (n45 _ (dig u k hk').1), fun _ => dig u k hk'⟩
    · unfold pval
      rw [List.take_length, List.filter_cons_of_neg (by decide), fil]
      rw [show dval (Lib.decDigits u) = u from (dec_digit u).2.2]
      simp
/-- A report's words, and its text from word c on. -/
theorem words_len (r : Q) : (wordsQ r).length = 8 := rfl
theorem words_blank (r : Q) (c : Nat) : (32 : UInt8) ∉ (wordsQ r).getD c [] := by
  match c with
  | 0 => exact wordL_blank _
  | 1 => exact itoa_blank _
  | 2 => exact itoa_blank _
  | 3 => exact itoa_blank _
  | 4 => exact itoa_blank _
  | 5 => exact itoa_blank _
  | 6 => exact itoa_blank _
  | 7 => exact itoa_blank _
  | c + 8 => simp [wordsQ]
theorem words_num (r : Q) {m : Nat} (h : m < 7) : (wordsQ r).getD (m + 1) [] = Lib.itoa (numQ r m) := by
  match m, h with
  | 0, _ => rfl
  | 1, _ => rfl
  | 2, _ => rfl
  | 3, _ => rfl
  | 4, _ => rfl
  | 5, _ => rfl
  | 6, _ => rfl
theorem join_at (L : List (List UInt8)) : ∀ c, c < L.length → joinL (L.drop c) = L.getD c [] ++ (if c + 1 = L.length then [] else 32 :: joinL (L.drop (c + 1))) := by
  induction L with
  | nil => intro c h; simp at h
  | cons a L ih =>
    intro c h
    cases c with
    | zero =>
      cases L with
      | nil => simp [joinL]
      | cons b L => simp [joinL]
    | succ c =>
      have := ih c (by simpa using h)
      rw [List.drop_succ_cons, this]
      simp only [List.length_cons, List.drop_succ_cons]
      rw [show (a :: L).getD (c + 1) [] = L.getD c [] by simp [List.getD]]
      by_cases e : c + 1 = L.length
      · rw [if_pos e, if_pos (by omega)]
      · rw [if_neg e, if_neg (by omega)]
/-- How far the text has been parted: c words are found, the next begins at P. -/
structure Parted (T : List UInt8) (ws : List (List UInt8)) (c P I : Nat) : Prop where
  rest : T.drop P = joinL (ws.drop c)
  ways : (c < ws.length ∧ P ≤ I ∧ I ≤ P + (ws.getD c []).length ∧ P + (ws.getD c []).length ≤ T.length) ∨ (c = ws.length ∧ I = T.length + 1)
theorem joinL_len (L : List (List UInt8)) (h : 0 < L.length) : (L.getD 0 []).length ≤ (joinL L).length := by
  have := join_at L 0 h
  rw [List.drop_zero] at this
  rw [this, List.length_append]
  omega
theorem Parted.start (ws : List (List UInt8)) (h : 0 < ws.length) : Parted (joinL ws) ws 0 0 0 :=
  ⟨by rw [List.drop_zero, List.drop_zero], .inl ⟨h, Nat.le_refl _, Nat.zero_le _, by rw [Nat.zero_add]; exact joinL_len ws h⟩⟩
/-- Within a word no blank, and not the end. -/
theorem Parted.within {T : List UInt8} {ws : List (List UInt8)} {c P I : Nat} (h : Parted T ws c P I) (hc : c < ws.length) (hI : I < P + (ws.getD c []).length) (hb : (32 : UInt8) ∉ ws.getD c []) : I < T.length ∧ T.getD I 0 ≠ 32 ∧ Parted T ws c P (I + 1) := by
  obtain ⟨h1, h2⟩ := h
  rcases h2 with ⟨_, a, b, d⟩ | ⟨e, _⟩
  · refine ⟨by omega, ?_, h1, .inl ⟨hc, by omega, by omega, d⟩⟩
    have e := join_at ws c hc
    rw [← h1] at e
    have e2 : T.getD I 0 = (T.drop P).getD (I - P) 0 := by simp [List.getD, show P + (I - P) = I by omega]
    rw [e2, e]
    have hlt : I - P < (ws.getD c []).length := by omega
    have e3 : ∀ y : List UInt8, (ws.getD c [] ++ y).getD (I - P) 0 = (ws.getD c [])[I - P] := fun y => by
      rw [List.getD_eq_getElem?_getD, List.getElem?_append_left hlt, List.getElem?_eq_getElem hlt]
      rfl
    rw [e3]
    intro e4
    exact hb (by rw [← e4]; exact List.getElem_mem hlt)
  · omega
/-- At a word's end: the end of all, or a blank; the word lies between. -/
theorem Parted.ends {T : List UInt8} {ws : List (List UInt8)} {c P I : Nat} (h : Parted T ws c P I) (hc : c < ws.length) (hI : I = P + (ws.getD c []).length) :
    I ≤ T.length ∧ P ≤ I ∧ (T.drop P).take (I - P) = ws.getD c [] ∧ (I = T.length ∨ (I < T.length ∧ T.getD I 0 = 32)) ∧ Parted T ws (c + 1) (I + 1) (I + 1) := by
  obtain ⟨h1, h2⟩ := h
  rcases h2 with ⟨_, a, b, d⟩ | ⟨e, _⟩
  · have e := join_at ws c hc
    rw [← h1] at e
    have hdl : (T.drop P).length = T.length - P := List.length_drop
    have htk : (T.drop P).take (I - P) = ws.getD c [] := by
      rw [e, show I - P = (ws.getD c []).length by omega]
      exact List.take_left
    by_cases el : c + 1 = ws.length
    · rw [if_pos el, List.append_nil] at e
      have hIT : I = T.length := by rw [e] at hdl; omega
      refine ⟨by omega, by omega, htk, .inl hIT, ?_, .inr ⟨el, by omega⟩⟩
      rw [List.drop_of_length_le (by omega), List.drop_of_length_le (by omega)]
      rfl
    · rw [if_neg el] at e
      have hlen := congrArg List.length e
      rw [List.length_append, List.length_cons, hdl] at hlen
      have hd : T.drop (I + 1) = joinL (ws.drop (c + 1)) := by
        have e5 : T.drop (I + 1) = (T.drop P).drop ((ws.getD c []).length + 1) := by rw [List.drop_drop]; congr 1; omega
        rw [e5, e, List.drop_append]
        simp
      have hg : T.getD I 0 = 32 := by
        have e2 : T.getD I 0 = (T.drop P).getD (I - P) 0 := by simp [List.getD, show P + (I - P) = I by omega]
        rw [e2, e, show I - P = (ws.getD c []).length by omega]
        simp [List.getD]
      have hnl := joinL_len (ws.drop (c + 1)) (by rw [List.length_drop]; omega)
      have hg0 : (ws.drop (c + 1)).getD 0 [] = ws.getD (c + 1) [] := by simp [List.getD]
      rw [hg0] at hnl
      refine ⟨by omega, by omega, htk, .inr ⟨by omega, hg⟩, hd, .inl ⟨by omega, by omega, by omega, by omega⟩⟩
  · omega
end Go.Proofs.YtjhfgajhmenboaaDoor
