/-
  Contracts of the document's arena: New, Open, Get, Top.
-/
import Derived.Test.YtcfmnmknbebfnaaRLvRead
import Derived.Test.YtcfmnmknbebfnaaLvOpen
import Derived.Test.YtcfmnmknbebfnaaLvGet
namespace Go.Proofs.Ytcfmnmknbebfnaa
open Go.RowKit
set_option linter.unusedVariables false
set_option linter.unusedSimpArgs false

theorem info_bool : (Try.prog.info? 4).map (fun i => (i.zero, i.size, i.bytes)) = some (some (.bool false), 1, 1) := by kernel_rfl
theorem info_rows : (Try.prog.info? 64).map (fun i => (i.zero, i.size, i.bytes)) = some (some (.slice none 0 0), 1, 24) := by kernel_rfl
theorem made_bools (n : Nat) : (madeCells #[Value.bool false] n).toList = (List.replicate n false).map Value.bool := by
  apply List.ext_getElem?
  intro j
  rcases Nat.lt_or_ge j n with hj | hj
  · rw [List.getElem?_map, List.getElem?_replicate, if_pos hj]
    simp only [madeCells, Array.toList_map, List.getElem?_map, Array.toList_range]
    rw [List.getElem?_range (by omega)]
    simp only [Option.map_some]
    show some (#[Value.bool false][j % 1]!) = some (Value.bool false)
    rw [Nat.mod_one]; rfl
  · rw [List.getElem?_eq_none (l := (List.replicate n false).map Value.bool) (by simpa using hj), List.getElem?_eq_none (by rw [Array.length_toList, size_madeCells]; omega)]
set_option maxRecDepth 100000 in
set_option maxHeartbeats 1000000 in
theorem RNew_any (room : Nat) (w : World) (h2 : room ≤ 4096) :
    Calls Try.prog 9 #[.int .i64 room] w fun e w' => ∃ c F, e = .returned (.pointer (some ⟨c, 0, none⟩)) ∧ RA w.heap.size c F (newS room) w' ∧ Below w.heap.size w w' := by
  obtain ⟨i0, hi0, hz0, hz1, hz2⟩ := info_parts info_bool
  go_enter Try.func9, Try.ntmps9
  go_wp2_with (at_make; refine wpList_make_full _ (by rfl) (.tmp 3) (.tmp 3) 45 (by rfl) w.heap.size 4 i0 (.bool false) 1 Try.underlying45 hi0 hz0 hz1 .i64 .i64 _ _ room (by rfl) (by rfl) rfl rfl (by rw [hz2]; omega) (by unfold maxLen; omega) (Nat.le_refl _) ?_)
  intro w1 r1 g1
  replace r1 := Lib.hid r1
  replace g1 := Lib.hid g1
  have hbb : ∀ W : World, (Instr.build 59 #[(0, .slice (some ⟨w.heap.size, 0, none⟩) room room)]).run Try.prog W = .ok (.agg #[.slice (some ⟨w.heap.size, 0, none⟩) room room, .slice none 0 0]) W := fun W => by kernel_rfl
  go_wp2_with fail
  go_ret
  refine ⟨w1.heap.size, footR w1.heap.size w.heap.size (.slice none 0 0) [], rfl, ⟨w.heap.size, .slice none 0 0, [], rfl, ?_, newS_ok room, ?_⟩, ?_⟩
  · rcases r1.out.2 with ⟨e0, _⟩ | ⟨g, cap, cur, e0, b1, b2, b3, b4, b5, b6⟩
    · cases e0
    · injection e0 with e1 e2 e3
      injection e1 with e1
      injection e1 with e1
      subst e1
      subst e3
      have hlt : w.heap.size < w1.heap.size := (Array.getElem?_eq_some_iff.1 b2).1
      refine ⟨?_, ⟨cur, (heap_alloc_old w1 _ _ hlt).trans b2, ?_⟩, World.ownsRow_nil _ _ _ _, rfl, fun k v l hv => by simp at hv, by omega, fun k h => by (cases h), fun j v hv => by simp at hv, fun i j v v' hv => by simp at hv, ?_⟩
      · show _ = some (Obj.cells #[.slice (some ⟨w.heap.size, 0, none⟩) (List.replicate room false).length (List.replicate room false).length, .slice none 0 0] _ _)
        rw [List.length_replicate]; exact heap_alloc_new w1 _
      · rw [show (newS room).U = List.replicate room false from rfl, ← made_bools, ← b6, List.take_of_length_le (by rw [Array.length_toList, b5]; omega)]
      · rw [show (newS room).U = List.replicate room false from rfl, List.length_replicate]; exact h2
  · have := g1.out.size
    rintro k (rfl | rfl | h | ⟨j, v, hv, _⟩)
    · exact this
    · exact Nat.le_refl _
    · cases h
    · simp at hv
  · exact ((Below.refl _ w).grown g1.out (Nat.le_refl _) (fun k h => by cases h)).alloc g1.out.size _
set_option maxRecDepth 100000 in
set_option maxHeartbeats 1000000 in
theorem ROpen_any (B c : Nat) (F : Nat → Prop) (st : St) (w : World) (hA0 : Hid (RA B c F st w)) (hQ : st.Q.length ≤ 1000000) :
    Calls Try.prog 24 #[.pointer (some ⟨c, 0, none⟩)] w fun e w' => ∃ F', e = .returned (.int .i64 (st.Q.length : Int)) ∧ RA B c F' st.opened w' ∧ Only F w w' ∧ (∀ k, F' k → F k ∨ w.heap.size ≤ k) := by
  obtain ⟨u, v, V, eF, hA, hO, hB⟩ := hA0.out
  obtain ⟨i0, hi0, hz0, hz1, hz2⟩ := info_parts info_rows
  have hlc := (hA0.out.lt (k := c) (by rw [eF]; exact .inl rfl))
  obtain ⟨x0, x1, f0, f1⟩ := hA.cells
  have heQ := hA.len
  obtain ⟨nE, enE⟩ : ∃ n, V.length = n := ⟨_, rfl⟩
  have henQ : st.Q.length = nE := by rw [← heQ, enE]
  rw [henQ] at hQ ⊢
  have R0 := hA.qs
  rw [enE] at R0
  replace hA := Lib.hid hA
  replace hB := Lib.hid hB
  replace enE := Lib.hid enE
  replace henQ := Lib.hid henQ
  clear heQ
  have R1 := Lib.hid (World.ownsRow.alloc R0 (.cells #[.slice none 0 0] 64))
  replace R0 := Lib.hid R0
  go_enter Try.func24, Try.ntmps24
  go_wp2_with (at_builtin; refine wpList_append_lies _ rfl (.tmp 7) (.tmp 8) 57 rfl 0 64 i0 (.slice none 0 0) 1 24 Try.underlying57 hi0 hz0 hz1 hz2 rfl (by decide) v nE _ rfl R1.out ⟨w.heap.size, 0, none⟩ 1 1 [.slice none 0 0] rfl rfl (World.news_of_block (heap_alloc_new w _)) (fun u hu => by rw [List.mem_singleton.1 hu]; rfl) (by omega) (by unfold maxLen; omega) (by omega) (Nat.zero_le _) _ rfl ?_)
  intro g cap w4 r4 g4 h4 l4
  have hcs : c < w.heap.size ∧ u < w.heap.size := ⟨hA.out.lt (.inl rfl), hA.out.lt (.inr (.inl rfl))⟩
  have hgg : g ≠ c ∧ g ≠ u := by
    rcases h4 with e | e
    · exact hA.out.qc g e
    · omega
  have hgv : ∀ (j : Nat) (x : Value), V[j]? = some x → ∀ k, x.ownBlock = some k → k ≠ g := fun j x hx k hk e => by
    rcases h4 with e4 | e4
    · exact (hA.out.vc j x hx k hk).2.2 (by rw [e4, e])
    · have := hA.out.lt (.inr (.inr (.inr ⟨j, x, hx, hk⟩))); omega
  have O4 : Only (fun k => v.ownBlock = some k) w w4 := by
    refine ((alloc_only w _).mono (fun _ _ e => e.elim)).step (only_grown g4) (fun i hi e => e.symm)
  have at4 : w4.heap[c]? = some (.cells #[.slice (some ⟨u, 0, none⟩) st.U.length st.U.length, v] 59 (0, 0)) := (O4.block c hcs.1 (fun e => (hA.out.qc c e).1 rfl)).trans hA.out.at'
  have us4 : ∃ cur : Array Value, w4.heap[u]? = some (.cells cur 4 (0, 0)) ∧ cur.toList = st.U.map Value.bool := by
    obtain ⟨cur, a1, a2⟩ := hA.out.us
    exact ⟨cur, (O4.block u hcs.2 (fun e => (hA.out.qc u e).2 rfl)).trans a1, a2⟩
  have m1 : w4.cell? ⟨c, 1, none⟩ = some v := by rw [Lib.cell_of_heap at4]; rfl
  have m2 := Lib.frozen_of_heap at4 1
  have get_or : ∀ (j : Nat) (x : Value), (V ++ [Value.slice none 0 0])[j]? = some x → V[j]? = some x ∨ (j = V.length ∧ x = .slice none 0 0) := fun j x hx => by
    rcases Nat.lt_trichotomy j V.length with h | h | h
    · rw [List.getElem?_append_left h] at hx; exact .inl hx
    · subst h; simp at hx; exact .inr ⟨rfl, hx.symm⟩
    · rw [List.getElem?_append_right (by omega), List.getElem?_eq_none (by simp; omega)] at hx; cases hx
  have hA5 : Rr c u (.slice (some ⟨g, 0, none⟩) (nE + 1) cap) (V ++ [.slice none 0 0]) st.U st.opened.Q (w4.setCell ⟨c, 1, none⟩ (.slice (some ⟨g, 0, none⟩) (nE + 1) cap)) := by
    refine ⟨heap_setCell_same w4 c 1 _ _ _ at4, ?_, ?_, by simp [St.opened, hA.out.len], fun k x l hx hl => ?_, hA.out.cu, ?_, fun j x hx k hk => ?_, fun i j x y hx hy hij k hk => ?_, hA.out.room⟩
    · obtain ⟨cur, a1, a2⟩ := us4
      exact ⟨cur, (set_heap_other (fun e => hA.out.cu e.symm)).trans a1, a2⟩
    · have := row_only r4 (set_only w4 c 1 (.slice (some ⟨g, 0, none⟩) (nE + 1) cap)) (fun k hk e => by
        have hk' : g = k := by injection hk
        exact hgg.1 (hk'.trans e))
      rw [List.length_append, List.length_singleton, enE.out]
      exact this
    · rcases get_or k x hx with hx' | ⟨e1, rfl⟩
      · have hl' : st.Q[k]? = some l := by
          rcases get_snoc (st := st) hl with h | h
          · exact h
          · have : k < st.Q.length := by rw [← hA.out.len]; exact (List.getElem?_eq_some_iff.1 hx').1
            have := snoc_get (st := st) (List.getElem?_eq_getElem this)
            have hl2 : (st.Q ++ [[]])[k]? = some l := hl
            rw [this] at hl2; rw [List.getElem?_eq_getElem ‹k < st.Q.length›]; exact hl2
        exact ((hA.out.rows k x l hx' hl').only O4 (fun b hb e => (hA.out.vc k x hx' b hb).2.2 e)).only (set_only w4 c 1 _) (fun b hb e => (hA.out.vc k x hx' b hb).1 e)
      · have : l = [] := by
          have hl2 : (st.Q ++ [[]])[k]? = some l := hl
          rw [e1, hA.out.len] at hl2
          simpa using hl2.symm
        subst this
        exact re_nil _ _ _
    · intro k hk
      have hk' : g = k := by injection hk
      rw [← hk']; exact hgg
    · rcases get_or j x hx with hx' | ⟨e1, rfl⟩
      · obtain ⟨a1, a2, a3⟩ := hA.out.vc j x hx' k hk
        exact ⟨a1, a2, fun e => hgv j x hx' k hk (by injection e with e; exact e.symm)⟩
      · cases hk
    · rcases get_or i x hx with hx' | ⟨e1, rfl⟩
      · rcases get_or j y hy with hy' | ⟨e1, rfl⟩
        · exact hA.out.vv i j x y hx' hy' hij k hk
        · intro e; cases e
      · cases hk
  have O5 : Only F w (w4.setCell ⟨c, 1, none⟩ (.slice (some ⟨g, 0, none⟩) (nE + 1) cap)) := by
    rw [eF]
    exact (O4.mono (fun k _ e => .inr (.inr (.inl e)))).trans ((set_only w4 c 1 _).mono (fun k _ e => .inl e))
  have hnew : ∀ k, footR c u (.slice (some ⟨g, 0, none⟩) (nE + 1) cap) (V ++ [.slice none 0 0]) k → F k ∨ w.heap.size ≤ k := by
    rw [eF]
    rintro k (rfl | rfl | hk | ⟨j, x, hx, hk⟩)
    · exact .inl (.inl rfl)
    · exact .inl (.inr (.inl rfl))
    · have hk' : g = k := by injection hk
      subst hk'
      rcases h4 with e | e
      · exact .inl (.inr (.inr (.inl e)))
      · right; omega
    · rcases get_or j x hx with hx' | ⟨e1, rfl⟩
      · exact .inl (.inr (.inr (.inr ⟨j, x, hx', hk⟩)))
      · cases hk
  have hB5 : ∀ k, footR c u (.slice (some ⟨g, 0, none⟩) (nE + 1) cap) (V ++ [.slice none 0 0]) k → B ≤ k := fun k hk => by
    rcases hnew k hk with e | e
    · exact hB.out k e
    · omega
  have fin := Lib.hid (And.intro hA5 (And.intro O5 (And.intro hnew hB5)))
  clear hA5 O5 hnew hB5 at4 us4 r4 g4 h4 l4 O4 R1 R0 x0 x1 f0 f1 get_or hgv
  have hw : IntKind.i64.wrap ((nE : Int) + 1 - 1) = (nE : Int) := by rw [show (nE : Int) + 1 - 1 = (nE : Int) by omega]; exact IntWalk.i64_in _ (by omega)
  go_wp2_with fail
  go_ret
  obtain ⟨a1, a2, a3, a4⟩ := fin.out
  exact ⟨_, by rfl, ⟨u, _, _, rfl, a1, hO.opened, a4⟩, a2, a3⟩
set_option maxRecDepth 100000 in
set_option maxHeartbeats 2000000 in
theorem RTop_any (B c : Nat) (F : Nat → Prop) (st : St) (slot : Int) (t' : Bool) (w : World) (hA0 : Hid (RA B c F st w)) (hQ : st.Q.length ≤ 1000000) :
    Calls Try.prog 27 #[.pointer (some ⟨c, 0, none⟩), .int .i64 slot, .bool t'] w fun e w' => e = .returned (.int .i64 (topO st slot t').1) ∧ RA B c F (topO st slot t').2 w' ∧ Only F w w' := by
  obtain ⟨u, q, V, eF, hA, hO, hB⟩ := hA0.out
  replace hA := Lib.hid hA
  have HT := Lib.hid (At_any c u q V st.U st.Q slot w hA hQ (Lib.hid (hO.short' hA.out.room)))
  have hself : Hid (Only F w w) := Lib.hid (Only.refl _ _)
  rcases hf : findQ slot st.Q 0 with _ | ⟨k, A, e, C⟩
  · have eP : topO st slot t' = (26, st) := by unfold topO; rw [hf]
    rw [eP]
    rw [hf, show atV none = .tuple #[.int .i64 0, .int .i64 0, .bool false] from rfl] at HT
    clear eP hf hA hB eF
    go_enter Try.func27, Try.ntmps27
    go_wp2_with fail
    refine HT.out.mono ?_
    rintro e w' ⟨rfl, rfl⟩
    go_wp2_with fail
    go_ret
    exact ⟨rfl, hA0.out, hself.out⟩
  · obtain ⟨j0, e1, hl, es⟩ := findQ_some hf
    obtain rfl : k = j0 := by omega
    have eP : topO st slot t' = (0, st.turned k (A ++ { e with t := t' } :: C)) := by unfold topO; rw [hf]
    rw [eP]
    rw [hf, show atV (some (k, A, e, C)) = .tuple #[.int .i64 (k : Int), .int .i64 (A.length : Int), .bool true] from rfl] at HT
    have hj : (A ++ e :: C)[A.length]? = some e := by simp
    obtain ⟨v, hv⟩ : ∃ v, V[k]? = some v := ⟨_, List.getElem?_eq_getElem (by rw [hA.out.len]; exact (List.getElem?_eq_some_iff.1 hl).1)⟩
    obtain ⟨g, cap, eq, g1, g2, g3, m0, -⟩ := hA.out.queue hv
    obtain ⟨c0, c1, f0, f1⟩ := hA.out.cells
    obtain ⟨b, cap1, ev, b1, b2, ⟨p0, p1, p2, p3⟩, y⟩ := (hA.out.rows k v _ hv hl).at hj
    subst ev
    have y3 := y (A.length * 4 + 3)
    obtain ⟨f1', f2', f3'⟩ := hO.fit _ _ e hl (by simp)
    have hok := hO.turned (e' := { e with t := t' }) hl rfl rfl f1' f2'
    have hset : (A ++ e :: C).set A.length { e with t := t' } = A ++ { e with t := t' } :: C := by simp
    have fin1 := hA.out.setN (e' := { e with t := t' }) (m := 3) (x := .bool t') hv hl hj (by omega) rfl
    rw [hset] at fin1
    replace fin1 := Lib.hid fin1
    have hfb : footR c u q V b := .inr (.inr (.inr ⟨k, _, hv, rfl⟩))
    subst eF
    have fin2 : Hid (Only (footR c u q V) w (w.setCell ⟨b, A.length * 4 + 3, none⟩ (.bool t'))) := Lib.hid ((set_only w b _ _).mono (fun k _ e => by rw [e]; exact hfb))
    have hlen := hA.out.len
    obtain ⟨n, en⟩ : ∃ n, st.Q.length = n := ⟨_, rfl⟩
    rw [en] at hlen hQ
    rw [hlen] at eq g1
    rw [eq] at c1
    have hkn : k < n := by rw [← en]; exact (List.getElem?_eq_some_iff.1 hl).1
    obtain ⟨nl, enl⟩ : ∃ n, (A ++ e :: C).length = n := ⟨_, rfl⟩
    obtain ⟨a, ea⟩ : ∃ n, A.length = n := ⟨_, rfl⟩
    have han : a < nl := by rw [← ea, ← enl]; simp
    have hnl : nl ≤ 4096 := by have h1 := hO.short hl; have h2 := hA.out.room; rw [enl] at h1; omega
    rw [enl] at m0 b1
    rw [ea] at HT p0 p1 p2 p3 y3 fin1 fin2
    obtain ⟨m, i, x, t⟩ := e
    simp only at p0 p1 p2 p3 fin1 ⊢
    replace eq := Lib.hid eq
    clear eP hf hl hj hv hset hfb hlen en enl ea y f1' f2' es e1
    go_enter Try.func27, Try.ntmps27
    go_wp2_with fail
    refine HT.out.mono ?_
    rintro e w' ⟨rfl, rfl⟩
    go_wp2_with fail
    go_ret
    exact ⟨rfl, ⟨u, q, V, rfl, fin1.out, hok, hB⟩, fin2.out⟩
end Go.Proofs.Ytcfmnmknbebfnaa
