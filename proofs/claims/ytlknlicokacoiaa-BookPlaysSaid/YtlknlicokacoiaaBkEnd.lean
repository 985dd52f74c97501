/-
  Contract: endTop, of book.
-/
import Derived.Test.YtlknlicokacoiaaBkWb
namespace Go.Proofs.Ytlknlicokacoiaa
open Go.RowKit
set_option linter.unusedVariables false
set_option linter.unusedSimpArgs false

/-- The first order of a side is no top. -/
def endC (c : Cs) (s : Nat) : Cs :=
  match c.R s with
  | [] => c
  | r :: _ => match lq c.st r.2 with
    | [] => c
    | e :: l => { c with st := c.st.turned r.2 ({ e with t := false } :: l) }
theorem topO_first {st : St} (h : st.Ok) {q : Nat} {e : En} {l : List En} (hq : st.Q[q]? = some (e :: l)) (t : Bool) : topO st (e.s : Int) t = (0, st.turned q ({ e with t := t } :: l)) := by
  unfold topO
  have hu := (h.use e.s).2 ⟨q, _, e, hq, by simp, rfl⟩
  cases hf : findQ (e.s : Int) st.Q 0 with
  | none => exact absurd rfl (findQ_none hf q _ hq e (by simp))
  | some x =>
    obtain ⟨q', A, e', C⟩ := x
    obtain ⟨j, e1, e2, e3⟩ := findQ_some hf
    obtain rfl : q' = j := by omega
    have hs : e'.s = e.s := by omega
    by_cases hqq : q' = q
    · subst hqq
      rw [hq] at e2
      injection e2 with e2
      have nd := h.nd q' _ hq
      cases A with
      | nil => injection e2 with a b; subst a; subst b; rfl
      | cons y A =>
        injection e2 with a b
        subst a
        rw [b, List.map_cons, List.nodup_cons] at nd
        exact absurd (List.mem_map.2 ⟨e', by simp, hs⟩) nd.1
    · exact absurd hs (h.far q' q _ _ e2 hq hqq e' (by simp) e (by simp))
def EndPost (B b a : Nat) (F : Nat → Prop) (V : Nat → Value) (vs : Value) (c : Cs) (w : World) (e : Ending) (w' : World) : Prop := e = .returned (.tuple #[]) ∧ Wb B b a F V vs c w' ∧ Only F w w'
set_option maxRecDepth 100000 in
set_option maxHeartbeats 2000000 in
theorem EndTop_any (B b a : Nat) (F : Nat → Prop) (V : Nat → Value) (vs : Value) (c : Cs) (s : Nat) (w : World) (hW : Hid (Wb B b a F V vs c w)) (hI : Hid (CInv noEx c)) (hs : s = 1 ∨ s = 2) (hQ : c.st.Q.length ≤ 1000000) :
    Calls Try.prog 37 #[.pointer (some ⟨b, 0, none⟩), .int .i64 (s : Int)] w (EndPost B b a F V vs (endC c s) w) := by
  obtain ⟨x0, -⟩ := hW.out.bm.arena
  obtain ⟨x1, -⟩ := hW.out.bm.side hs
  obtain ⟨A, cap, ev, hv, hc, hc2, hc3, hA⟩ := (hW.out.bm.rw s hs).slice
  have h3 : s < 3 := by omega
  cases hR : c.R s with
  | nil =>
    have eC : endC c s = c := by unfold endC; rw [hR]
    rw [eC]
    rw [ev, hR] at x1
    simp only [List.length_nil] at x1
    have fin := Lib.hid (Only.refl F w)
    clear hv hc hA hc3 eC hI ev hs
    go_enter Try.func37, Try.ntmps37
    go_wp2_with fail
    go_end0
    exact ⟨rfl, hW.out, fin.out⟩
  | cons r R' =>
    obtain ⟨p, q⟩ := r
    have hne := (hI.out.full s (p, q) (by rw [hR]; simp)).resolve_left (fun f => f)
    obtain ⟨e, l, hl⟩ := List.exists_cons_of_ne_nil hne
    simp only at hl
    have hqQ := (hI.out.apart (X := []) (Y := R') (p := p) (q := q) hR).lt
    have hl' : c.st.Q[q]? = some (e :: l) := by rw [lq_some hqQ, hl]
    have eC : endC c s = { c with st := c.st.turned q ({ e with t := false } :: l) } := by unfold endC; rw [hR]; simp only; rw [hl]
    have eT := topO_first hI.out.ok hl' false
    obtain ⟨g, off, eA, hcc⟩ := hv.2 0 (p, q) (by rw [hR]; rfl)
    have hAg := hA _ eA
    have hoff : off = 0 := hAg.1
    subst hoff
    have y1 : w.cell? ⟨g, 1, none⟩ = some (.int .i64 (q : Int)) := by
      have h9 : w.cell? ⟨g, 0 + 0 * 2 + 1, none⟩ = some (.int .i64 (q : Int)) := hcc 1 _ rfl
      simpa using h9
    obtain ⟨n, en⟩ : ∃ n, (c.R s).length = n := ⟨_, rfl⟩
    have hn : 0 < n := by rw [← en, hR]; simp
    rw [ev, en, eA] at x1
    rw [en] at hc
    have hgF : ¬ F g := fun e => hW.out.far g e (bfoot_v hs (by rw [ev, eA]; rfl))
    have hbF : ¬ F b := fun e => hW.out.far b e (.inl rfl)
    have hbl := (hW.out.lt (k := b) (.inr (.inl rfl))).2
    have hgl : g < w.heap.size := hAg.2.2.2
    have hd1 : (0 : Int) < (n : Int) := by omega
    have HL := Lib.hid (List_any B a F c.st (q : Int) w.drew (Lib.hid (hW.out.ar.below ⟨rfl, rfl, rfl, Nat.le_refl _, fun _ _ => rfl⟩)) hQ)
    rw [listO_nat, hl] at HL
    have HL2 : Hid (Calls Try.prog 54 #[.pointer (some ⟨a, 0, none⟩), .int .i64 (q : Int)] w.drew (fun e' w1 => ∃ lb nl cl, e' = .returned (.slice (some ⟨lb, 0, none⟩) nl cl) ∧ 0 < nl ∧ w1.cell? ⟨lb, 0, none⟩ = some (.int .i64 (e.s : Int)) ∧ Below w.drew.heap.size w.drew w1)) := Lib.hid (HL.out.mono (by
      rintro e' w1 ⟨vl, rfl, rl, bl⟩
      obtain ⟨Al, cl, evl, hEl, -, -, hAl⟩ := rl.slice
      obtain ⟨lb, off', eAl, k0, -⟩ := hEl.2 0 e rfl
      have h0 : off' = 0 := (hAl _ eAl).1
      subst h0
      refine ⟨lb, (e :: l).length, cl, by rw [evl, eAl], by simp, ?_, bl⟩
      have h9 : w1.cell? ⟨lb, 0 + 0 * 4, none⟩ = some (.int .i64 (e.s : Int)) := k0
      simpa using h9))
    have HT : Hid (∀ X, Below w.drew.heap.size w.drew X → Calls Try.prog 53 #[.pointer (some ⟨a, 0, none⟩), .int .i64 (e.s : Int), .bool false] X fun e' w' => e' = .returned (.int .i64 0) ∧ AR B a F (c.st.turned q ({ e with t := false } :: l)) w' ∧ Only F X w') := Lib.hid (fun X h => by
      have hX : AR B a F c.st X := hW.out.ar.below ⟨h.os, h.tape, h.output, h.size, h.block⟩
      have := Top_any B a F c.st (e.s : Int) false X (Lib.hid hX) hQ
      rw [eT] at this
      exact this)
    have hw0 : (fun W : World => W.cell? ⟨b, 0, none⟩ = some (.pointer (some ⟨a, 0, none⟩)) ∧ W.cell? ⟨g, 1, none⟩ = some (.int .i64 (q : Int))) w.drew := ⟨x0, y1⟩
    have LL : Hid (∀ X, Below w.drew.heap.size w.drew X → (fun W : World => W.cell? ⟨b, 0, none⟩ = some (.pointer (some ⟨a, 0, none⟩)) ∧ W.cell? ⟨g, 1, none⟩ = some (.int .i64 (q : Int))) X) := Lib.hid (fun X h =>
      ⟨(World.cell?_of_block (a := ⟨b, 0, none⟩) (h.block b hbl)).trans x0, (World.cell?_of_block (a := ⟨g, 1, none⟩) (h.block g hgl)).trans y1⟩)
    have LF : Hid (∀ X Y, Below w.drew.heap.size w.drew X → Only F X Y → (fun W : World => W.cell? ⟨b, 0, none⟩ = some (.pointer (some ⟨a, 0, none⟩)) ∧ W.cell? ⟨g, 1, none⟩ = some (.int .i64 (q : Int))) Y) := Lib.hid (fun X Y h o => by
      have h1 : b < X.heap.size := Nat.lt_of_lt_of_le hbl h.size
      have h2 : g < X.heap.size := Nat.lt_of_lt_of_le hgl h.size
      exact ⟨(World.cell?_of_block (a := ⟨b, 0, none⟩) (o.block b h1 hbF)).trans (LL.out X h).1, (World.cell?_of_block (a := ⟨g, 1, none⟩) (o.block g h2 hgF)).trans (LL.out X h).2⟩)
    have fin : Hid (∀ X Y, Below w.drew.heap.size w.drew X → Only F X Y → AR B a F (c.st.turned q ({ e with t := false } :: l)) Y → Wb B b a F V vs (endC c s) Y ∧ Only F w Y) := Lib.hid (fun X Y h o k => by
      have h1 : Only F w X := ⟨h.os, h.tape, h.output, h.size, fun k hk _ => h.block k hk⟩
      have h2 := h1.trans o
      refine ⟨?_, h2⟩
      rw [eC]
      exact ⟨k, hW.out.bm.only h2 (fun k hk e => hW.out.far k e hk), hW.out.far, hW.out.lo⟩)
    obtain ⟨es, ei, en', et⟩ := e
    simp only at HL2 HT
    replace eA := Lib.hid eA
    replace ev := Lib.hid ev
    clear HL hcc hAg hv hA hc3 eC eT hl hl' hne hI hs hR hgF hbF hbl hgl en hqQ
    go_enter Try.func37, Try.ntmps37
    go_upto_region 2 with (fail)
    refine wp_region_held_drew (S := (fun W : World => W.cell? ⟨b, 0, none⟩ = some (.pointer (some ⟨a, 0, none⟩)) ∧ W.cell? ⟨g, 1, none⟩ = some (.int .i64 (q : Int)))) (by rfl) hw0 (fun hHeld => ?_)
    refine wpAnyH_take (i := 0) (v := .pointer (some ⟨b, 0, none⟩)) rfl (by kernel_rfl) (by kernel_rfl) (by kernel_rfl) (fun _ _ _ h => h) (Or.inl ⟨by kernel_rfl, fun W hSw => ?_⟩) (by assumption) ?_
    · (try dsimp only at hSw)
      go_simp
    (try simp only [Act.put, List.setIfInBounds_toArray, List.set_cons_zero, List.set_cons_succ])
    refine wpAnyH_take (i := 1) (v := .pointer (some ⟨b, 0, none⟩)) rfl (by kernel_rfl) (by kernel_rfl) (by kernel_rfl) (fun _ _ _ h => h) (Or.inl ⟨by kernel_rfl, fun W hSw => ?_⟩) (by assumption) ?_
    · (try dsimp only at hSw)
      go_simp
    (try simp only [Act.put, List.setIfInBounds_toArray, List.set_cons_zero, List.set_cons_succ])
    refine wpAnyH_take (i := 2) (v := .pointer (some ⟨b, 0, none⟩)) rfl (by kernel_rfl) (by kernel_rfl) (by kernel_rfl) (fun _ _ _ h => h) (Or.inl ⟨by kernel_rfl, fun W hSw => ?_⟩) (by assumption) ?_
    · (try dsimp only at hSw)
      go_simp
    (try simp only [Act.put, List.setIfInBounds_toArray, List.set_cons_zero, List.set_cons_succ])
    refine wpAnyH_take (i := 3) (v := .pointer (some ⟨a, 0, none⟩)) rfl (by kernel_rfl) (by kernel_rfl) (by kernel_rfl) (fun _ _ _ h => h) (Or.inl ⟨by kernel_rfl, fun W hSw => ?_⟩) (by assumption) ?_
    · (try dsimp only at hSw)
      go_simp
    (try simp only [Act.put, List.setIfInBounds_toArray, List.set_cons_zero, List.set_cons_succ])
    refine wpAnyH_take (i := 4) (v := .pointer (some ⟨b, 0, none⟩)) rfl (by kernel_rfl) (by kernel_rfl) (by kernel_rfl) (fun _ _ _ h => h) (Or.inl ⟨by kernel_rfl, fun W hSw => ?_⟩) (by assumption) ?_
    · (try dsimp only at hSw)
      go_simp
    (try simp only [Act.put, List.setIfInBounds_toArray, List.set_cons_zero, List.set_cons_succ])
    refine wpAnyH_take (i := 5) (v := .pointer (some ⟨b, 0, none⟩)) rfl (by kernel_rfl) (by kernel_rfl) (by kernel_rfl) (fun _ _ _ h => h) (Or.inl ⟨by kernel_rfl, fun W hSw => ?_⟩) (by assumption) ?_
    · (try dsimp only at hSw)
      go_simp
    (try simp only [Act.put, List.setIfInBounds_toArray, List.set_cons_zero, List.set_cons_succ])
    refine wpAnyH_take (i := 6) (v := .pointer (some ⟨b, 0, none⟩)) rfl (by kernel_rfl) (by kernel_rfl) (by kernel_rfl) (fun _ _ _ h => h) (Or.inl ⟨by kernel_rfl, fun W hSw => ?_⟩) (by assumption) ?_
    · (try dsimp only at hSw)
      go_simp
    (try simp only [Act.put, List.setIfInBounds_toArray, List.set_cons_zero, List.set_cons_succ])
    refine wpAnyH_take (i := 7) (v := .pointer (some ⟨a, 0, none⟩)) rfl (by kernel_rfl) (by kernel_rfl) (by kernel_rfl) (fun _ _ _ h => h) (Or.inl ⟨by kernel_rfl, fun W hSw => ?_⟩) (by assumption) ?_
    · (try dsimp only at hSw)
      go_simp
    (try simp only [Act.put, List.setIfInBounds_toArray, List.set_cons_zero, List.set_cons_succ])
    refine wpAnyH_take (i := 8) (v := .slice (some ⟨g, 0, none⟩) n cap) rfl (by kernel_rfl) (by kernel_rfl) (by kernel_rfl) (fun _ _ _ h => h) (Or.inl ⟨by kernel_rfl, fun W hSw => ?_⟩) (by assumption) ?_
    · (try dsimp only at hSw)
      go_simp
    (try simp only [Act.put, List.setIfInBounds_toArray, List.set_cons_zero, List.set_cons_succ])
    refine wpAnyH_take (i := 9) (v := .pointer (some ⟨g, 0, none⟩)) rfl (by kernel_rfl) (by kernel_rfl) (by kernel_rfl) (fun _ _ _ h => h) (Or.inl ⟨by kernel_rfl, fun W hSw => ?_⟩) (by assumption) ?_
    · (try dsimp only at hSw)
      go_simp
    (try simp only [Act.put, List.setIfInBounds_toArray, List.set_cons_zero, List.set_cons_succ])
    refine wpAnyH_take (i := 10) (v := .pointer (some ⟨g, 1, none⟩)) rfl (by kernel_rfl) (by kernel_rfl) (by kernel_rfl) (fun _ _ _ h => h) (Or.inl ⟨by kernel_rfl, fun W hSw => ?_⟩) (by assumption) ?_
    · (try dsimp only at hSw)
      go_simp
    (try simp only [Act.put, List.setIfInBounds_toArray, List.set_cons_zero, List.set_cons_succ])
    refine wpAnyH_take (i := 11) (v := .int .i64 (q : Int)) rfl (by kernel_rfl) (by kernel_rfl) (by kernel_rfl) (fun _ _ _ h => h) (Or.inl ⟨by kernel_rfl, fun W hSw => ?_⟩) (by assumption) ?_
    · (try dsimp only at hSw)
      go_simp
    (try simp only [Act.put, List.setIfInBounds_toArray, List.set_cons_zero, List.set_cons_succ])
    refine wpAnyH_ready (rs := [12]) (by kernel_rfl) (by simp) ?_
    refine AllReadyH.cons rfl (fun K hK => ?_) AllReadyH.nil
    go_simp
    refine HL2.out.mono ?_
    rintro e' w1 ⟨lb, nl, cl, rfl, hnl, k0, bl⟩
    have z1 := LL.out w1 bl
    replace bl := Lib.hid bl
    go_wp2_with fail
    refine hK.out _ _ z1 (fun hHeld => ?_)
    clear hK K
    (try simp only [Act.put, List.setIfInBounds_toArray, List.set_cons_zero, List.set_cons_succ])
    refine wpAnyH_take (i := 13) (v := .pointer (some ⟨lb, 0, none⟩)) rfl (by kernel_rfl) (by kernel_rfl) (by kernel_rfl) (fun _ _ _ h => h) (Or.inl ⟨by kernel_rfl, fun W hSw => ?_⟩) (by assumption) ?_
    · (try dsimp only at hSw)
      go_simp
    (try simp only [Act.put, List.setIfInBounds_toArray, List.set_cons_zero, List.set_cons_succ])
    refine wpAnyH_take (i := 14) (v := .pointer (some ⟨lb, 0, none⟩)) rfl (by kernel_rfl) (by kernel_rfl) (by kernel_rfl) (fun _ _ _ h => h) (Or.inl ⟨by kernel_rfl, fun W hSw => ?_⟩) (by assumption) ?_
    · (try dsimp only at hSw)
      go_simp
    (try simp only [Act.put, List.setIfInBounds_toArray, List.set_cons_zero, List.set_cons_succ])
    refine wpAnyH_ready (rs := [15]) (by kernel_rfl) (by simp) ?_
    refine AllReadyH.cons rfl (fun K hK => ?_) AllReadyH.nil
    go_simp
    refine hK.out _ _ z1 (fun hHeld => ?_)
    clear hK K
    (try simp only [Act.put, List.setIfInBounds_toArray, List.set_cons_zero, List.set_cons_succ])
    refine wpAnyH_ready (rs := [16]) (by kernel_rfl) (by simp) ?_
    refine AllReadyH.cons rfl (fun K hK => ?_) AllReadyH.nil
    go_simp
    refine (HT.out _ bl.out).mono ?_
    rintro e' w2 ⟨rfl, a2, o2⟩
    have z2 := LF.out _ _ bl.out o2
    have fin2 := Lib.hid (fin.out _ _ bl.out o2 a2)
    clear a2 o2
    go_wp2_with fail
    refine hK.out _ _ z2 (fun hHeld => ?_)
    clear hK K
    (try simp only [Act.put, List.setIfInBounds_toArray, List.set_cons_zero, List.set_cons_succ])
    refine wpAnyH_done (by kernel_rfl) ?_ _
    go_wp2_with fail
    go_end0
    exact ⟨rfl, fin2.out.1, fin2.out.2⟩
end Go.Proofs.Ytlknlicokacoiaa
