/-
  Contract: entry, of book.
-/
import Derived.Test.YtlknlicokacoiaaBkWb
namespace Go.Proofs.Ytlknlicokacoiaa
open Go.RowKit
set_option linter.unusedVariables false
set_option linter.unusedSimpArgs false

theorem nodup_slot {l : List En} (h : (l.map En.s).Nodup) {x e : En} (hx : x ∈ l) (he : e ∈ l) (es : x.s = e.s) : x = e := by
  induction l with
  | nil => cases hx
  | cons y l ih =>
    rw [List.map_cons, List.nodup_cons] at h
    rcases List.mem_cons.1 hx with e1 | hx'
    · rcases List.mem_cons.1 he with e2 | he'
      · rw [e1, e2]
      · exact absurd (List.mem_map.2 ⟨e, he', by rw [← es, e1]⟩) h.1
    · rcases List.mem_cons.1 he with e2 | he'
      · exact absurd (List.mem_map.2 ⟨x, hx', by rw [es, e2]⟩) h.1
      · exact ih h.2 hx' he'
theorem St.Ok.uniq {st : St} (h : st.Ok) {q q' : Nat} {l l' : List En} {x e : En} (hl : st.Q[q]? = some l) (hx : x ∈ l) (hl' : st.Q[q']? = some l') (he : e ∈ l') (es : x.s = e.s) : x = e := by
  by_cases hq : q = q'
  · subst hq
    rw [hl] at hl'
    injection hl' with hl'
    subst hl'
    exact nodup_slot (h.nd q l hl) hx he es
  · exact absurd es (h.far q q' l l' hl hl' hq x hx e he)
def EntPost (st : St) (i : Int) (w : World) (e' : Ending) (w' : World) : Prop := ∃ e ok, e' = .returned (.tuple #[e.val, .bool ok]) ∧ EntryIs st i e ok ∧ Below w.heap.size w w'
set_option maxRecDepth 100000 in
set_option maxHeartbeats 2000000 in
theorem Entry_any (B b a : Nat) (F : Nat → Prop) (V : Nat → Value) (vs : Value) (c : Cs) (i : Int) (w : World) (hW : Hid (Wb B b a F V vs c w)) (hok : Hid c.st.Ok) (hU : Hid (c.st.U.length = 250)) :
    Calls Try.prog 41 #[.pointer (some ⟨b, 0, none⟩), .int .i64 i] w (EntPost c.st i w) := by
  obtain ⟨st, est⟩ : ∃ st, c.st = st := ⟨_, rfl⟩
  rw [est] at hok hU ⊢
  obtain ⟨g, eg⟩ : ∃ g, w.heap.size = g := ⟨_, rfl⟩
  obtain ⟨W0, eW0⟩ : ∃ W, w.alloc (.cells #[.int .i64 0, .int .i64 0, .int .i64 0, .bool false] 90) = W := ⟨_, rfl⟩
  have hg : W0.heap[g]? = some (.cells #[.int .i64 0, .int .i64 0, .int .i64 0, .bool false] 90 (0, 0)) := by rw [← eW0, ← eg]; exact heap_alloc_new w _
  have b0 : Below w.heap.size w W0 := by rw [← eW0]; exact (Below.refl _ w).alloc (Nat.le_refl _) _
  have hgl : g < W0.heap.size := (Array.getElem?_eq_some_iff.1 hg).1
  have hbn := build_none
  have hkeep : Hid (∀ W, Below W0.heap.size W0 W → Wb B b a F V vs c W ∧ AR B a F st W ∧ W.heap[g]? = some (.cells #[.int .i64 0, .int .i64 0, .int .i64 0, .bool false] 90 (0, 0)) ∧ Below w.heap.size w W) := Lib.hid (fun W h => by
    have h1 := (hW.out.below b0).below h
    exact ⟨h1, by rw [← est]; exact h1.ar, (h.block g hgl).trans hg, b0.trans (h.mono b0.size)⟩)
  have bs : Hid (Below W0.heap.size W0 W0) := Lib.hid (Below.refl _ _)
  replace eW0 := Lib.hid eW0
  replace eg := Lib.hid eg
  clear est hg b0 hgl
  go_enter Try.func41, Try.ntmps41
  go_upto_region 1 with (fail)
  rw [eW0.out, eg.out]
  go_wp2_with fail
  go_loopw [9] (fun i' wr => ∃ k : Nat, i' = .int .i64 k ∧ k ≤ 250 ∧ Hid (Below W0.heap.size W0 wr) ∧ Hid (∀ (q : Nat) (l : List En), st.Q[q]? = some l → ∀ x ∈ l, x.s < k → x.i ≠ i)) (fun i' _ => (250 - intOf i').toNat)
  case atStart => exact ⟨0, rfl, by omega, bs, Lib.hid (fun q l hl x hx h => by omega)⟩
  case round =>
    clear bs
    obtain ⟨k, rfl, hk, hb, hno⟩ := hrel
    obtain ⟨k1, k2, k3, k4⟩ := hkeep.out wr hb.out
    obtain ⟨x0, -⟩ := k1.bm.arena
    by_cases hlt : k < 250
    · have HG := Lib.hid (Get_any B a F st (k : Int) wr (Lib.hid k2))
      obtain ⟨e, ok, eG⟩ : ∃ e ok, getO st (k : Int) = (e, ok) := ⟨_, _, rfl⟩
      rw [eG] at HG
      simp only at HG
      have hz := Lib.hid k3
      replace k4 := Lib.hid k4
      clear k1 k2 k3
      obtain ⟨s, ii, n, t⟩ := e
      have HG' : Hid (Calls Try.prog 61 #[.pointer (some ⟨a, 0, none⟩), .int .i64 (k : Int)] wr fun e w' => e = .returned (.tuple #[.agg #[.int .i64 (s : Int), .int .i64 ii, .int .i64 n, .bool t], .bool ok]) ∧ Below wr.heap.size wr w') := HG
      clear HG
      go_wp2_with fail
      refine HG'.out.mono ?_
      rintro e w2 ⟨rfl, b2⟩
      go_upto_region 5 with (fail)
      obtain ⟨W3, eW3⟩ : ∃ W, w2.alloc (.cells #[.int .i64 (s : Int), .int .i64 ii, .int .i64 n, .bool t] 90) = W := ⟨_, rfl⟩
      obtain ⟨g7, eg7⟩ : ∃ g, w2.heap.size = g := ⟨_, rfl⟩
      rw [eW3, eg7]
      have b3 : Below wr.heap.size wr W3 := by rw [← eW3]; exact b2.alloc b2.size _
      have B3 : Hid (Below W0.heap.size W0 W3) := Lib.hid (hb.out.trans (b3.mono hb.out.size))
      have hg7 : W3.heap[g7]? = some (.cells #[.int .i64 (s : Int), .int .i64 ii, .int .i64 n, .bool t] 90 (0, 0)) := by rw [← eW3, ← eg7]; exact heap_alloc_new w2 _
      have hg3 : W3.heap[g]? = some (.cells #[.int .i64 0, .int .i64 0, .int .i64 0, .bool false] 90 (0, 0)) := (b3.block g (Array.getElem?_eq_some_iff.1 hz.out).1).trans hz.out
      have k5 : Hid (Below w.heap.size w W3) := Lib.hid (k4.out.trans (b3.mono k4.out.size))
      obtain ⟨⟨d0, d1, d2, d3⟩, -⟩ := row4 hg7
      obtain ⟨⟨y0, y1, y2, y3⟩, u0, u1, u2, u3⟩ := row4 hg3
      replace eW3 := Lib.hid eW3
      replace eg7 := Lib.hid eg7
      replace hg7 := Lib.hid hg7
      replace b3 := Lib.hid b3
      replace b2 := Lib.hid b2
      have hg3' := Lib.hid hg3
      clear x0 hg3
      cases ok with
      | false =>
        have hno2 : Hid (∀ (q : Nat) (l : List En), st.Q[q]? = some l → ∀ x ∈ l, x.s < k + 1 → x.i ≠ i) := Lib.hid (fun q l hl x hx h => by
          rcases Nat.lt_or_ge x.s k with h1 | h1
          · exact hno.out q l hl x hx h1
          · exact absurd (by omega : (x.s : Int) = (k : Int)) ((getO_none eG).2 q l hl x hx))
        clear eG hno
        go_wp2_with fail
        go_roundw
        case rel => exact ⟨k + 1, by go_num, by omega, B3, hno2⟩
        case measure => simp [intOf]; omega
      | true =>
        obtain ⟨q, A, C, hq, hs⟩ := getO_some eG
        simp only at hs
        by_cases hii : ii = i
        · have hE : Hid (EntryIs st i ⟨s, ii, n, t⟩ true) := Lib.hid (.inl ⟨rfl, hii, q, A, C, hq⟩)
          have d9 : (ii == i) = true := by simpa using hii
          have q4 := Lib.hid (set4 (.int .i64 (s : Int)) (.int .i64 ii) (.int .i64 n) (.bool t) hg3'.out)
          clear eG hno hq hs
          replace hii := Lib.hid hii
          go_wp2_with fail
          refine bodyPost_ret (results_cell_row_tmp rfl _ _ g 90 _ (0, 0) _ rfl q4.out rfl rfl rfl) rfl ?_
          have hle : w.heap.size ≤ g := by rw [eg.out]; exact Nat.le_refl _
          exact ⟨_, true, rfl, hE.out, (((k5.out.setCell (p := ⟨g, 0, none⟩) hle _).setCell (p := ⟨g, 1, none⟩) hle _).setCell (p := ⟨g, 2, none⟩) hle _).setCell (p := ⟨g, 3, none⟩) hle _⟩
        · have hno2 : Hid (∀ (q : Nat) (l : List En), st.Q[q]? = some l → ∀ x ∈ l, x.s < k + 1 → x.i ≠ i) := Lib.hid (fun q' l hl x hx h => by
            rcases Nat.lt_or_ge x.s k with h1 | h1
            · exact hno.out q' l hl x hx h1
            · have := hok.out.uniq hl hx hq (e := ⟨s, ii, n, t⟩) (by simp) (by show x.s = s; omega)
              rw [this]; exact hii)
          have d9 : (ii == i) = false := by simpa using hii
          clear eG hno hq hs hii
          go_wp2_with fail
          go_roundw
          case rel => exact ⟨k + 1, by go_num, by omega, B3, hno2⟩
          case measure => simp [intOf]; omega
    · obtain rfl : k = 250 := by omega
      have fin2 : Hid (EntryIs st i zeroE false) := Lib.hid (.inr ⟨rfl, rfl, fun q l hl x hx => hno.out q l hl x hx (by rw [← hU.out]; exact hok.out.lt hl hx)⟩)
      obtain ⟨⟨y0, y1, y2, y3⟩, u0, u1, u2, u3⟩ := row4 k3
      have q4 := Lib.hid (set4 (.int .i64 0) (.int .i64 0) (.int .i64 0) (.bool false) k3)
      replace k4 := Lib.hid k4
      clear k1 k2 k3
      go_wp2_with fail
      refine bodyPost_ret (results_cell_row_tmp rfl _ _ g 90 _ (0, 0) _ rfl q4.out rfl rfl rfl) rfl ?_
      have hle : w.heap.size ≤ g := by rw [eg.out]; exact Nat.le_refl _
      exact ⟨zeroE, false, rfl, fin2.out, (((k4.out.setCell (p := ⟨g, 0, none⟩) hle _).setCell (p := ⟨g, 1, none⟩) hle _).setCell (p := ⟨g, 2, none⟩) hle _).setCell (p := ⟨g, 3, none⟩) hle _⟩
end Go.Proofs.Ytlknlicokacoiaa
