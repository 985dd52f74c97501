/-
  Contracts: Fill, Find, of book.
-/
import Derived.Test.YtlknlicokacoiaaBkDrop
import Derived.Test.YtlknlicokacoiaaBkRefuse
namespace Go.Proofs.Ytlknlicokacoiaa
open Go.RowKit
set_option linter.unusedVariables false
set_option linter.unusedSimpArgs false

/-- What the arena's order of an ID is among the orders told. -/
theorem CInv.found {c : Cs} (h : CInv noEx c) {i : Int} {e : En} {q : Nat} {A C : List En} (hi : e.i = i) (hq : c.st.Q[q]? = some (A ++ e :: C)) :
    ∃ (s : Nat) (X Y : List (Int × Nat)) (p : Int), (s = 1 ∨ s = 2) ∧ c.R s = X ++ (p, q) :: Y ∧ lq c.st q = A ++ e :: C ∧ c.T[e.s]? = some ((s : Int), p) ∧
      cutO i c.abs = some (preO c.st c.R s ++ sideO c.st s X ++ A.map (ordE s p), ordE s p e, C.map (ordE s p) ++ (sideO c.st s Y ++ sufO c.st c.R s)) := by
  obtain ⟨s, X, Y, p, hs, hR⟩ := h.row hq (by simp)
  have hl := lq_of hq
  refine ⟨s, X, Y, p, hs, hR, hl, h.seat s (p, q) e (by rw [hR]; simp) (by show e ∈ lq c.st q; rw [hl]; simp), ?_⟩
  have a0 := abs_mid (c := c) hs hR
  rw [hl] at a0
  have a2 : c.abs = (preO c.st c.R s ++ sideO c.st s X ++ A.map (ordE s p)) ++ ordE s p e :: (C.map (ordE s p) ++ (sideO c.st s Y ++ sufO c.st c.R s)) := by rw [a0]; simp [List.append_assoc]
  rw [a2]
  refine cutO_mid hi (fun x hx he => ?_)
  have hn := h.ids
  rw [a2, List.map_append, List.map_cons, List.nodup_append] at hn
  exact hn.2.2 _ (List.mem_map.2 ⟨x, hx, rfl⟩) (ordE s p e).i (by simp) (he.trans hi.symm)
theorem CInv.unfound {c : Cs} {ex : Nat → Prop} (h : CInv ex c) {i : Int} (hno : ∀ (q : Nat) (l : List En), c.st.Q[q]? = some l → ∀ x ∈ l, x.i ≠ i) : cutO i c.abs = none := cutO_far (fun x hx => by
  obtain ⟨s, r, e', hs, hr, he', rfl⟩ := mem_abs hx
  exact hno r.2 _ (lq_some (lq_lt he')) e' he')
theorem build_noOrder : ∀ W : World, (Instr.build 40 #[]).run Try.prog W = .ok (.agg #[.int .i64 0, .int .i64 0, .int .i64 0, .int .i64 0, .bool false]) W := fun W => by kernel_rfl
set_option maxRecDepth 100000 in
set_option maxHeartbeats 2000000 in
theorem Find_any (B b a : Nat) (F : Nat → Prop) (V : Nat → Value) (vs : Value) (c : Cs) (i : Int) (w : World) (hW : Hid (Wb B b a F V vs c w)) (hI : Hid (CInv noEx c)) :
    Calls Try.prog 17 #[.pointer (some ⟨b, 0, none⟩), .int .i64 i] w fun e w' => e = .returned (.tuple #[(findO c.abs i).1.val, .bool (findO c.abs i).2]) ∧ Below w.heap.size w w' := by
  obtain ⟨g, eg⟩ : ∃ g, w.heap.size = g := ⟨_, rfl⟩
  obtain ⟨W0, eW0⟩ : ∃ W, w.alloc (.cells #[.int .i64 0, .int .i64 0, .int .i64 0, .int .i64 0, .bool false] 40) = W := ⟨_, rfl⟩
  have hg : W0.heap[g]? = some (.cells #[.int .i64 0, .int .i64 0, .int .i64 0, .int .i64 0, .bool false] 40 (0, 0)) := by rw [← eW0, ← eg]; exact heap_alloc_new w _
  have b0 : Below w.heap.size w W0 := by rw [← eW0]; exact (Below.refl _ w).alloc (Nat.le_refl _) _
  have hgl : g < W0.heap.size := (Array.getElem?_eq_some_iff.1 hg).1
  have hW0 := Lib.hid (hW.out.below b0)
  have HE := Lib.hid (Entry_any B b a F V vs c i W0 hW0 (Lib.hid hI.out.ok) (Lib.hid hI.out.room))
  have hbn := build_noOrder
  have hgh := Lib.hid hg
  have hb0 := Lib.hid b0
  have hgl' := Lib.hid hgl
  have hle : Hid (w.heap.size ≤ g) := Lib.hid (by omega)
  replace eW0 := Lib.hid eW0
  replace eg := Lib.hid eg
  clear hg b0 hgl
  obtain ⟨P, eP⟩ : ∃ P, findO c.abs i = P := ⟨_, rfl⟩
  rw [eP]
  go_enter Try.func17, Try.ntmps17
  go_upto_region 1 with (fail)
  rw [eW0.out, eg.out]
  go_wp2_with fail
  refine HE.out.mono ?_
  rintro e w1 ⟨x, ok, rfl, hx, b1⟩
  obtain ⟨W2, eW2⟩ : ∃ W, w1.alloc (.cells #[.int .i64 (x.s : Int), .int .i64 x.i, .int .i64 x.n, .bool x.t] 90) = W := ⟨_, rfl⟩
  have b2 : Below W0.heap.size W0 W2 := by rw [← eW2]; exact b1.alloc b1.size _
  have hg2 := (b2.block g hgl'.out).trans hgh.out
  have bw2 := Lib.hid (hb0.out.trans (b2.mono hb0.out.size))
  obtain ⟨h1, eh1⟩ : ∃ h, w1.heap.size = h := ⟨_, rfl⟩
  have hh1 : W2.heap[h1]? = some (.cells #[.int .i64 (x.s : Int), .int .i64 x.i, .int .i64 x.n, .bool x.t] 90 (0, 0)) := by rw [← eW2, ← eh1]; exact heap_alloc_new w1 _
  obtain ⟨⟨y0, y1, y2, y3, y4⟩, u0, u1, u2, u3, u4⟩ := row5 hg2
  obtain ⟨⟨d0, d1, d2, d3⟩, -⟩ := row4 hh1
  have hW2 := Lib.hid (hW0.out.below b2)
  replace b1 := Lib.hid b1
  replace b2 := Lib.hid b2
  replace hh1 := Lib.hid hh1
  have hg2h := Lib.hid hg2
  clear hg2 HE
  cases ok with
  | false =>
    have hno : P = (zeroO, false) := by
      rcases hx with ⟨h, _⟩ | ⟨-, -, hno⟩
      · cases h
      · rw [← eP]; unfold findO; rw [hI.out.unfound hno]
    have q5 := Lib.hid (set5 (.int .i64 0) (.int .i64 0) (.int .i64 0) (.int .i64 0) (.bool false) hg2h.out)
    have fin : Hid (Below w.heap.size w (((((W2.setCell ⟨g, 0, none⟩ (.int .i64 0)).setCell ⟨g, 1, none⟩ (.int .i64 0)).setCell ⟨g, 2, none⟩ (.int .i64 0)).setCell ⟨g, 3, none⟩ (.int .i64 0)).setCell ⟨g, 4, none⟩ (.bool false))) :=
      Lib.hid (((((bw2.out.setCell (p := ⟨g, 0, none⟩) hle.out _).setCell (p := ⟨g, 1, none⟩) hle.out _).setCell (p := ⟨g, 2, none⟩) hle.out _).setCell (p := ⟨g, 3, none⟩) hle.out _).setCell (p := ⟨g, 4, none⟩) hle.out _)
    replace hno := Lib.hid hno
    replace hx := Lib.hid hx
    clear eP
    simp only [En.val]
    go_wp2_with fail
    refine bodyPost_ret (results_cell_row_tmp rfl _ _ g 40 _ (0, 0) _ rfl q5.out rfl rfl rfl) rfl ?_
    rw [hno.out]
    exact ⟨rfl, fin.out⟩
  | true =>
    obtain ⟨q, A, C, hq, hi⟩ : ∃ (q : Nat) (A C : List En), c.st.Q[q]? = some (A ++ x :: C) ∧ x.i = i := by
      rcases hx with ⟨-, hi, q, A, C, hq⟩ | ⟨h, -⟩
      · exact ⟨q, A, C, hq, hi⟩
      · cases h
    obtain ⟨s, X, Y, p, hs, hR, hl, hT, hcut⟩ := hI.out.found hi hq
    have hP : P = (ordE (s : Int) p x, true) := by rw [← eP]; unfold findO; rw [hcut]
    have HO := Lib.hid (Order_any b a V vs c.R c.T c.S x ((s : Int), p) W2 (Lib.hid hW2.out.bm) hT)
    have hv : Or.val ⟨x.i, (s : Int), p, x.n, x.t⟩ = Or.val (ordE (s : Int) p x) := rfl
    obtain ⟨es, ei, en', et⟩ := x
    simp only at d0 d1 d2 d3 HO hh1 eW2
    replace hP := Lib.hid hP
    replace hx := Lib.hid hx
    replace hcut := Lib.hid hcut
    replace hq := Lib.hid hq
    replace hi := Lib.hid hi
    replace hR := Lib.hid hR
    replace hl := Lib.hid hl
    replace hT := Lib.hid hT
    clear eP hv
    simp only [En.val]
    go_wp2_with fail
    refine HO.out.mono ?_
    rintro e w3 ⟨rfl, b3⟩
    have hg3 := (b3.block g (by have := b2.out.size; have := hgl'.out; omega)).trans hg2h.out
    have bw3 := Lib.hid (bw2.out.trans (b3.mono bw2.out.size))
    clear y0 y1 y2 y3 y4 u0 u1 u2 u3 u4 d0 d1 d2 d3
    obtain ⟨⟨y0, y1, y2, y3, y4⟩, u0, u1, u2, u3, u4⟩ := row5 hg3
    have q5 := Lib.hid (set5 (.int .i64 ei) (.int .i64 (s : Int)) (.int .i64 p) (.int .i64 en') (.bool et) hg3)
    have fin : Hid (Below w.heap.size w (((((w3.setCell ⟨g, 0, none⟩ (.int .i64 ei)).setCell ⟨g, 1, none⟩ (.int .i64 (s : Int))).setCell ⟨g, 2, none⟩ (.int .i64 p)).setCell ⟨g, 3, none⟩ (.int .i64 en')).setCell ⟨g, 4, none⟩ (.bool et))) :=
      Lib.hid (((((bw3.out.setCell (p := ⟨g, 0, none⟩) hle.out _).setCell (p := ⟨g, 1, none⟩) hle.out _).setCell (p := ⟨g, 2, none⟩) hle.out _).setCell (p := ⟨g, 3, none⟩) hle.out _).setCell (p := ⟨g, 4, none⟩) hle.out _)
    replace b3 := Lib.hid b3
    clear hg3
    simp only [Or.val, Or.cells]
    go_wp2_with fail
    refine bodyPost_ret (results_cell_row_tmp rfl _ _ g 40 _ (0, 0) _ rfl q5.out rfl rfl rfl) rfl ?_
    rw [hP.out]
    exact ⟨rfl, fin.out⟩
def FillPost (B b a : Nat) (F : Nat → Prop) (V : Nat → Value) (vs : Value) (r : Int × List Or) (q0 : Nat) (w : World) (e : Ending) (w' : World) : Prop :=
  ∃ V' vs' c', e = .returned (.int .i64 r.1) ∧ Wb B b a F V' vs' c' w' ∧ CInv noEx c' ∧ c'.abs = r.2 ∧ c'.st.Q.length = q0 ∧ Only (wfoot b F V vs) w w' ∧ (∀ k, bfoot b V' vs' k → bfoot b V vs k ∨ w.heap.size ≤ k)
theorem takeO_at {st : St} (h : st.Ok) {q : Nat} {A C : List En} {e : En} (hq : st.Q[q]? = some (A ++ e :: C)) (n : Int) : takeO st (e.s : Int) n = if n < 1 ∨ e.n < n then (24, st) else if e.n - n = 0 then (0, st.gone q e.s (A ++ C)) else (0, st.turned q (A ++ { e with n := e.n - n } :: C)) := by
  unfold takeO
  cases hf : findQ (e.s : Int) st.Q 0 with
  | none => exact absurd rfl (findQ_none hf q _ hq e (by simp))
  | some x =>
    obtain ⟨q', A', e', C'⟩ := x
    obtain ⟨j, e1, e2, e3⟩ := findQ_some hf
    obtain rfl : q' = j := by omega
    have hs : e'.s = e.s := by omega
    by_cases hqq : q' = q
    · subst hqq
      rw [hq] at e2
      injection e2 with e2
      have nd := h.nd q' _ hq
      have key : ∀ (A A' C C' : List En), A ++ e :: C = A' ++ e' :: C' → ((A ++ e :: C).map En.s).Nodup → A = A' ∧ e = e' ∧ C = C' := by
        intro A
        induction A with
        | nil =>
          intro A' C C' he hn
          cases A' with
          | nil => injection he with a b; exact ⟨rfl, a, b⟩
          | cons y A' =>
            injection he with a b
            rw [List.nil_append, List.map_cons, List.nodup_cons] at hn
            exact absurd (List.mem_map.2 ⟨e', by rw [b]; simp, hs⟩) hn.1
        | cons x A ih =>
          intro A' C C' he hn
          cases A' with
          | nil =>
            injection he with a b
            rw [List.cons_append, List.map_cons, List.nodup_cons] at hn
            exact absurd (List.mem_map.2 ⟨e, by simp, by rw [a]; exact hs.symm⟩) hn.1
          | cons y A' =>
            injection he with a b
            rw [List.cons_append, List.map_cons, List.nodup_cons] at hn
            obtain ⟨r1, r2, r3⟩ := ih A' C C' b hn.2
            exact ⟨by rw [a, r1], r2, r3⟩
      obtain ⟨r1, r2, r3⟩ := key A A' C C' e2 nd
      subst r1; subst r2; subst r3
      rfl
    · exact absurd hs (h.far q' q _ _ e2 hq hqq e' (by simp) e (by simp))
end Go.Proofs.Ytlknlicokacoiaa
