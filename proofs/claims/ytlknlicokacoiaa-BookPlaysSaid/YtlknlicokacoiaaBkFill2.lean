/-
  Contract: Fill, of book.
-/
import Derived.Test.YtlknlicokacoiaaBkFill
namespace Go.Proofs.Ytlknlicokacoiaa
open Go.RowKit
set_option linter.unusedVariables false
set_option linter.unusedSimpArgs false

theorem drop_plain {c : Cs} {s q : Nat} {p : Int} {X Y : List (Int × Nat)} (h : CInv (fun k => k = q) c) (hs : s = 1 ∨ s = 2) (hR : c.R s = X ++ (p, q) :: Y) : CInv noEx (dropC c s q X Y) ∧ (dropC c s q X Y).abs = c.abs ∧ (dropC c s q X Y).st = c.st := by
  unfold dropC
  by_cases hq : lq c.st q = []
  · rw [if_pos hq]
    exact ⟨(h.drop hs hR hq).1, (h.drop hs hR hq).2, rfl⟩
  · rw [if_neg hq]
    exact ⟨h.whole hq, rfl, rfl⟩
/-- The state behind Take, ahead of the drop. -/
theorem take_plain {c : Cs} (h : CInv noEx c) {i n : Int} {e : En} {q : Nat} {A C : List En} {s : Nat} {X Y : List (Int × Nat)} {p : Int} (hs : s = 1 ∨ s = 2) (hR : c.R s = X ++ (p, q) :: Y) (hl : lq c.st q = A ++ e :: C)
    (hcut : cutO i c.abs = some (preO c.st c.R s ++ sideO c.st s X ++ A.map (ordE s p), ordE s p e, C.map (ordE s p) ++ (sideO c.st s Y ++ sufO c.st c.R s))) (hn : ¬ (n < 1 ∨ e.n < n)) :
    ∃ st', takeO c.st (e.s : Int) n = (0, st') ∧ st'.Q.length = c.st.Q.length ∧ CInv (fun k => k = q) { c with st := st' } ∧ fillO c.abs i n = (0, Cs.abs { c with st := st' }) := by
  have hqQ := (h.apart hR).lt
  have hq : c.st.Q[q]? = some (A ++ e :: C) := by rw [lq_some hqQ, hl]
  have hT := takeO_at h.ok hq n
  have hf : fillO c.abs i n = if n < 1 ∨ (ordE s p e).n < n then (24, c.abs) else if (ordE s p e).n - n = 0 then (0, (preO c.st c.R s ++ sideO c.st s X ++ A.map (ordE s p)) ++ (C.map (ordE s p) ++ (sideO c.st s Y ++ sufO c.st c.R s))) else (0, (preO c.st c.R s ++ sideO c.st s X ++ A.map (ordE s p)) ++ { (ordE s p e) with n := (ordE s p e).n - n } :: (C.map (ordE s p) ++ (sideO c.st s Y ++ sufO c.st c.R s))) := by unfold fillO; rw [hcut]
  have hn' : ¬ (n < 1 ∨ (ordE s p e).n < n) := hn
  rw [if_neg hn] at hT
  rw [if_neg hn'] at hf
  obtain ⟨f1, f2, f3⟩ := h.ok.fit q _ e hq (by simp)
  by_cases hz : e.n - n = 0
  · rw [if_pos hz] at hT
    rw [if_pos (show (ordE s p e).n - n = 0 from hz)] at hf
    obtain ⟨i1, a1, -⟩ := h.lose hs hR hl
    exact ⟨_, hT, List.length_set, i1, by rw [hf]; exact congrArg _ a1.symm⟩
  · rw [if_neg hz] at hT
    rw [if_neg (show ¬ (ordE s p e).n - n = 0 from hz)] at hf
    obtain ⟨i1, a1, -⟩ := h.turn (e' := { e with n := e.n - n }) hs hR hl rfl rfl (by show 1 ≤ e.n - n; omega) (by show e.n - n ≤ 1000000; omega) (fun t => t)
    exact ⟨_, hT, List.length_set, i1.mono (fun _ f => f.elim), by rw [hf]; exact congrArg _ a1.symm⟩
theorem take_bad {c : Cs} (h : CInv noEx c) {i n : Int} {e : En} {q : Nat} {A C : List En} {s : Nat} {X Y : List (Int × Nat)} {p : Int} (hR : c.R s = X ++ (p, q) :: Y) (hl : lq c.st q = A ++ e :: C)
    (hcut : cutO i c.abs = some (preO c.st c.R s ++ sideO c.st s X ++ A.map (ordE s p), ordE s p e, C.map (ordE s p) ++ (sideO c.st s Y ++ sufO c.st c.R s))) (hn : n < 1 ∨ e.n < n) :
    takeO c.st (e.s : Int) n = (24, c.st) ∧ fillO c.abs i n = (24, c.abs) := by
  have hqQ := (h.apart hR).lt
  have hq : c.st.Q[q]? = some (A ++ e :: C) := by rw [lq_some hqQ, hl]
  have hT := takeO_at h.ok hq n
  rw [if_pos hn] at hT
  refine ⟨hT, ?_⟩
  unfold fillO
  rw [hcut]
  exact if_pos hn
theorem dropC_T (c : Cs) (s q : Nat) (X Y : List (Int × Nat)) : (dropC c s q X Y).T = c.T := by
  unfold dropC; split <;> rfl
set_option maxRecDepth 100000 in
set_option maxHeartbeats 2000000 in
theorem Fill_any (B b a : Nat) (F : Nat → Prop) (V : Nat → Value) (vs : Value) (c : Cs) (i n : Int) (w : World) (hW : Hid (Wb B b a F V vs c w)) (hI : Hid (CInv noEx c)) (hn : I64 n) (hQ : c.st.Q.length ≤ 250) :
    Calls Try.prog 18 #[.pointer (some ⟨b, 0, none⟩), .int .i64 i, .int .i64 n] w (FillPost B b a F V vs (fillO c.abs i n) c.st.Q.length w) := by
  have HE := Lib.hid (Entry_any B b a F V vs c i w hW (Lib.hid hI.out.ok) (Lib.hid hI.out.room))
  go_enter Try.func18, Try.ntmps18
  go_wp2_with fail
  refine HE.out.mono ?_
  rintro e w1 ⟨x, ok, rfl, hx, b1⟩
  obtain ⟨W2, eW2⟩ : ∃ W, w1.alloc (.cells #[.int .i64 (x.s : Int), .int .i64 x.i, .int .i64 x.n, .bool x.t] 90) = W := ⟨_, rfl⟩
  have b2 : Below w.heap.size w W2 := by rw [← eW2]; exact b1.alloc b1.size _
  obtain ⟨h1, eh1⟩ : ∃ h, w1.heap.size = h := ⟨_, rfl⟩
  have hh1 : W2.heap[h1]? = some (.cells #[.int .i64 (x.s : Int), .int .i64 x.i, .int .i64 x.n, .bool x.t] 90 (0, 0)) := by rw [← eW2, ← eh1]; exact heap_alloc_new w1 _
  have hlow : w.heap.size ≤ h1 := by rw [← eh1]; exact b1.size
  obtain ⟨⟨d0, d1, d2, d3⟩, -⟩ := row4 hh1
  have hW2 := hW.out.below b2
  have on2 : Only (wfoot b F V vs) w W2 := (only_below b2).mono (fun _ _ e => e.elim)
  cases ok with
  | false =>
    have hf : fillO c.abs i n = (26, c.abs) := by
      rcases hx with ⟨h, _⟩ | ⟨-, -, hno⟩
      · cases h
      · unfold fillO; rw [hI.out.unfound hno]
    replace hW2 := Lib.hid hW2
    replace on2 := Lib.hid on2
    replace hx := Lib.hid hx
    replace hf := Lib.hid hf
    replace b1 := Lib.hid b1
    replace b2 := Lib.hid b2
    clear HE hh1
    simp only [En.val]
    go_wp2_with fail
    go_ret
    rw [hf.out]
    exact ⟨V, vs, c, rfl, hW2.out, hI.out, rfl, rfl, on2.out, fun k hk => .inl hk⟩
  | true =>
    obtain ⟨q, A, C, hq, hi⟩ : ∃ (q : Nat) (A C : List En), c.st.Q[q]? = some (A ++ x :: C) ∧ x.i = i := by
      rcases hx with ⟨-, hi, q, A, C, hq⟩ | ⟨h, -⟩
      · exact ⟨q, A, C, hq, hi⟩
      · cases h
    obtain ⟨s, X, Y, p, hs, hR, hl, hT, hcut⟩ := hI.out.found hi hq
    obtain ⟨x0, -⟩ := hW2.bm.arena
    obtain ⟨t0, t1, -, -⟩ := hW2.bm.seat hT
    have hm250 : x.s < 250 := by rw [← hI.out.tl]; exact (List.getElem?_eq_some_iff.1 hT).1
    have hm250i : (x.s : Int) < 250 := by omega
    have hTk := Take_any B a F c.st (x.s : Int) n W2.drew (Lib.hid (hW2.ar.below ⟨rfl, rfl, rfl, Nat.le_refl _, fun _ _ => rfl⟩)) (by omega) hn
    have hbF : ¬ F b := fun e => hW2.far b e (.inl rfl)
    have hhF : ¬ F h1 := fun e => by have := (hW.out.lt (k := h1) (.inl e)).2; omega
    have hh1l : h1 < W2.heap.size := (Array.getElem?_eq_some_iff.1 hh1).1
    have hbl : b < W2.heap.size := (hW2.lt (k := b) (.inr (.inl rfl))).2
    have hw0 : (fun W : World => W.cell? ⟨b, 0, none⟩ = some (.pointer (some ⟨a, 0, none⟩)) ∧ W.cell? ⟨h1, 0, none⟩ = some (.int .i64 (x.s : Int))) W2.drew := ⟨x0, d0⟩
    have LF : Hid (∀ Z, Only F W2.drew Z → (fun W : World => W.cell? ⟨b, 0, none⟩ = some (.pointer (some ⟨a, 0, none⟩)) ∧ W.cell? ⟨h1, 0, none⟩ = some (.int .i64 (x.s : Int))) Z) := Lib.hid (fun Z o =>
      ⟨(World.cell?_of_block (a := ⟨b, 0, none⟩) (o.block b hbl hbF)).trans x0, (World.cell?_of_block (a := ⟨h1, 0, none⟩) (o.block h1 hh1l hhF)).trans d0⟩)
    have LS : Hid (∀ Z, Only F W2.drew Z → Z.cell? ⟨b, 1 + x.s * 2, none⟩ = some (.int .i64 (s : Int)) ∧ Z.cell? ⟨b, 1 + x.s * 2 + 1, none⟩ = some (.int .i64 p)) := Lib.hid (fun Z o =>
      ⟨(World.cell?_of_block (a := ⟨b, 1 + x.s * 2, none⟩) (o.block b hbl hbF)).trans t0, (World.cell?_of_block (a := ⟨b, 1 + x.s * 2 + 1, none⟩) (o.block b hbl hbF)).trans t1⟩)
    have bmF : Hid (∀ Z, Only F W2.drew Z → Bm b a V vs c.R c.T c.S Z) := Lib.hid (fun Z o => hW2.bm.only ⟨o.os, o.tape, o.output, o.size, o.block⟩ (fun j hj e => hW2.far j e hj))
    by_cases hbad : n < 1 ∨ x.n < n
    · obtain ⟨k1, k2⟩ := take_bad hI.out hR hl hcut hbad
      rw [k1] at hTk
      simp only at hTk
      replace hTk := Lib.hid hTk
      obtain ⟨es, ei, en', et⟩ := x
      simp only at d0 d1 d2 d3 hh1 eW2 hTk hw0 LF hm250i LS
      replace hW2 := Lib.hid hW2
      replace on2 := Lib.hid on2
      replace hx := Lib.hid hx
      replace k2 := Lib.hid k2
      replace b1 := Lib.hid b1
      replace b2 := Lib.hid b2
      replace hcut := Lib.hid hcut
      replace hq := Lib.hid hq
      replace hi := Lib.hid hi
      replace hR := Lib.hid hR
      replace hl := Lib.hid hl
      replace hT := Lib.hid hT
      clear HE hh1 hbad k1 t0 t1 hbF hhF hh1l hbl
      simp only [En.val]
      go_upto_region 4 with (fail)
      go_region_held3 (fun W : World => W.cell? ⟨b, 0, none⟩ = some (.pointer (some ⟨a, 0, none⟩)) ∧ W.cell? ⟨h1, 0, none⟩ = some (.int .i64 (es : Int))) (first | with_reducible assumption | with_reducible exact hw0 | with_reducible exact z5) ((go_at_call 43; refine hTk.out.mono ?_; rintro e w5 ⟨rfl, a5, o5⟩; have z5 := LF.out w5 o5; replace a5 := Lib.hid a5; replace o5 := Lib.hid o5))
      go_wp2_with fail
      go_ret
      rw [k2.out]
      have oF : Only F W2 w5 := ⟨o5.out.os, o5.out.tape, o5.out.output, o5.out.size, o5.out.block⟩
      exact ⟨V, vs, c, rfl, ⟨a5.out, bmF.out w5 o5.out, hW2.out.far, hW2.out.lo⟩, hI.out, rfl, rfl, on2.out.trans (oF.mono (fun _ _ e => .inl e)), fun k hk => .inl hk⟩
    · obtain ⟨st', k1, kq, k3, k2⟩ := take_plain hI.out hs hR hl hcut hbad
      rw [k1] at hTk
      simp only at hTk
      replace hTk := Lib.hid hTk
      have hDr : Hid (∀ Z, Wb B b a F V vs { c with st := st' } Z → Calls Try.prog 44 #[.pointer (some ⟨b, 0, none⟩), .agg #[.int .i64 (s : Int), .int .i64 p]] Z (DropPost B b a F V vs (dropC { c with st := st' } s q X Y) Z)) := Lib.hid (fun Z h => Drop_any B b a F V vs { c with st := st' } s q p X Y Z (Lib.hid h) (Lib.hid k3) hs hR (by show st'.Q.length ≤ 100000; omega))
      obtain ⟨p1, p2, p3⟩ := drop_plain k3 hs hR
      have fin := Lib.hid (And.intro p1 (And.intro p2 p3))
      obtain ⟨es, ei, en', et⟩ := x
      simp only at d0 d1 d2 d3 hh1 eW2 hTk hw0 LF hm250i LS
      replace hW2 := Lib.hid hW2
      replace on2 := Lib.hid on2
      replace hx := Lib.hid hx
      replace k2 := Lib.hid k2
      replace kq := Lib.hid kq
      replace k3 := Lib.hid k3
      replace b1 := Lib.hid b1
      replace b2 := Lib.hid b2
      replace hcut := Lib.hid hcut
      replace hq := Lib.hid hq
      replace hi := Lib.hid hi
      replace hR := Lib.hid hR
      replace hl := Lib.hid hl
      replace hT := Lib.hid hT
      replace hs := Lib.hid hs
      clear HE hh1 hbad k1 t0 t1 hbF hhF hh1l hbl p1 p2 p3
      simp only [En.val]
      go_upto_region 4 with (fail)
      go_region_held3 (fun W : World => W.cell? ⟨b, 0, none⟩ = some (.pointer (some ⟨a, 0, none⟩)) ∧ W.cell? ⟨h1, 0, none⟩ = some (.int .i64 (es : Int))) (first | with_reducible assumption | with_reducible exact hw0 | with_reducible exact z5) ((go_at_call 43; refine hTk.out.mono ?_; rintro e w5 ⟨rfl, a5, o5⟩; have z5 := LF.out w5 o5; replace a5 := Lib.hid a5; replace o5 := Lib.hid o5))
      have oF : Hid (Only F W2 w5) := Lib.hid ⟨o5.out.os, o5.out.tape, o5.out.output, o5.out.size, o5.out.block⟩
      have W5 : Wb B b a F V vs { c with st := st' } w5 := ⟨a5.out, bmF.out w5 o5.out, hW2.out.far, hW2.out.lo⟩
      obtain ⟨v0, v1⟩ := LS.out w5 o5.out
      obtain ⟨z50, z51⟩ := z5
      have hD5 := Lib.hid (hDr.out w5.drew (W5.only (p := fun _ => False) ⟨rfl, rfl, rfl, Nat.le_refl _, fun _ _ _ => rfl⟩ (fun _ _ e => e)))
      have hw5 : (fun W : World => W.cell? ⟨h1, 0, none⟩ = some (.int .i64 (es : Int)) ∧ W.cell? ⟨b, 1 + es * 2, none⟩ = some (.int .i64 (s : Int)) ∧ W.cell? ⟨b, 1 + es * 2 + 1, none⟩ = some (.int .i64 p)) w5.drew := ⟨z51, v0, v1⟩
      have hs5 := oF.out.size
      have LD : Hid (∀ Z V' vs', Wb B b a F V' vs' (dropC { c with st := st' } s q X Y) Z → Only (bfoot b V vs) w5.drew Z → (fun W : World => W.cell? ⟨h1, 0, none⟩ = some (.int .i64 (es : Int)) ∧ W.cell? ⟨b, 1 + es * 2, none⟩ = some (.int .i64 (s : Int)) ∧ W.cell? ⟨b, 1 + es * 2 + 1, none⟩ = some (.int .i64 p)) Z) := Lib.hid (fun Z V' vs' h o => by
        have hnot : ¬ bfoot b V vs h1 := fun e => by have := (hW.out.lt (k := h1) (.inr e)).2; omega
        have hT2 : (dropC { c with st := st' } s q X Y).T[es]? = some ((s : Int), p) := by rw [dropC_T]; exact hT.out
        obtain ⟨k0, k1, -, -⟩ := h.bm.seat hT2
        exact ⟨(World.cell?_of_block (a := ⟨h1, 0, none⟩) (o.block h1 (World.block_lt_of_cell? w5 _ z51) hnot)).trans z51, k0, k1⟩)
      have finW : Hid (∀ Z V' vs', Wb B b a F V' vs' (dropC { c with st := st' } s q X Y) Z → Only (bfoot b V vs) w5.drew Z → (∀ k, bfoot b V' vs' k → bfoot b V vs k ∨ w5.drew.heap.size ≤ k) → FillPost B b a F V vs (fillO c.abs i n) c.st.Q.length w (.returned (.int .i64 0)) Z) := Lib.hid (fun Z V' vs' h o hn => by
        have o1 : Only (wfoot b F V vs) w w5.drew := by
          have := on2.out.trans (oF.out.mono (fun _ _ e => .inl e))
          exact ⟨this.os, this.tape, this.output, this.size, this.block⟩
        have s1 := o1.size
        obtain ⟨p1, p2, p3⟩ := fin.out
        refine ⟨V', vs', _, by rw [k2.out], h, p1, by rw [p2, k2.out], by rw [p3]; exact kq.out, o1.trans (o.mono (fun _ _ e => .inr e)), fun k hk => (hn k hk).imp id (fun e => by omega)⟩)
      clear W5 hTk hw0 LF LS bmF hDr d0 d1 d2 d3 x0 a5 o5
      go_upto_region 7 with (fail)
      go_region_held3 (fun W : World => W.cell? ⟨h1, 0, none⟩ = some (.int .i64 (es : Int)) ∧ W.cell? ⟨b, 1 + es * 2, none⟩ = some (.int .i64 (s : Int)) ∧ W.cell? ⟨b, 1 + es * 2 + 1, none⟩ = some (.int .i64 p)) (first | with_reducible assumption | with_reducible exact hw5 | with_reducible exact z6) ((go_at_call 44; refine hD5.out.mono ?_; rintro e w6 ⟨V', vs', rfl, W6, o6, n6⟩; have z6 := LD.out _ _ _ W6 o6; have fin6 := Lib.hid (finW.out _ _ _ W6 o6 n6); clear W6 o6 n6))
      go_wp2_with fail
      go_ret
      exact fin6.out
end Go.Proofs.Ytlknlicokacoiaa
