/-
  Contract: emptyQueue, of book.
-/
import Derived.Test.YtlknlicokacoiaaBkWb
import Derived.Test.YtlknlicokacoiaaBkDel
namespace Go.Proofs.Ytlknlicokacoiaa
open Go.RowKit
set_option linter.unusedVariables false
set_option linter.unusedSimpArgs false

/-- A queue is taken for a new row: opened, if none is spare. -/
def openC (c : Cs) : Cs := { c with st := c.st.opened, S := c.S ++ [c.st.Q.length] }
/-- Behind emptyQueue: the spare queue q is handed out. -/
def EqPost (B b a : Nat) (F : Nat → Prop) (V : Nat → Value) (vs : Value) (c : Cs) (w : World) (e : Ending) (w' : World) : Prop :=
  ∃ (q : Nat) (F' : Nat → Prop) (vs' : Value) (c2 : Cs) (S0 : List Nat), e = .returned (.int .i64 (q : Int)) ∧ (c2 = c ∨ c2 = openC c ∧ c.S = []) ∧ c2.S = S0 ++ [q] ∧
    Wb B b a F' V vs' { c2 with S := S0 } w' ∧ Only (wfoot b F V vs) w w' ∧ (∀ k, wfoot b F' V vs' k → wfoot b F V vs k ∨ w.heap.size ≤ k) ∧ (∀ k, b ≠ k → w.heap[k]? = w'.heap[k]? ∨ F k ∨ w.heap.size ≤ k) ∧
    (∀ s, (s = 1 ∨ s = 2) → w'.cell? ⟨b, 501 + s, none⟩ = some (V s))
set_option maxRecDepth 100000 in
set_option maxHeartbeats 2000000 in
theorem EmptyQ_any (B b a : Nat) (F : Nat → Prop) (V : Nat → Value) (vs : Value) (c : Cs) (w : World) (hW : Hid (Wb B b a F V vs c w)) (hQ : c.st.Q.length ≤ 1000000) (hS : Hid (∀ q ∈ c.S, q ≤ 1000000)) :
    Calls Try.prog 39 #[.pointer (some ⟨b, 0, none⟩)] w (EqPost B b a F V vs c w) := by
  obtain ⟨x0, -⟩ := hW.out.bm.arena
  obtain ⟨x1, f1⟩ := hW.out.bm.spare
  obtain ⟨A, cap, ev, hv, hc, hc2, hc3, hA⟩ := hW.out.bm.sp.slice
  rcases List.eq_nil_or_concat c.S with hnil | ⟨S0, q, hcon⟩
  · have HO := Lib.hid (Open_any B a F c.st w (Lib.hid hW.out.ar) hQ)
    rw [ev, hnil] at x1
    simp only [List.length_nil] at x1
    replace ev := Lib.hid ev
    replace hnil := Lib.hid hnil
    clear hv hc hA f1 hc3
    go_enter Try.func39, Try.ntmps39
    go_wp2_with fail
    refine HO.out.mono ?_
    rintro e w1 ⟨F', rfl, a1, o1, n1⟩
    replace a1 := Lib.hid a1
    replace o1 := Lib.hid o1
    replace n1 := Lib.hid n1
    go_wp2_with fail
    go_ret
    have far : ∀ k, bfoot b V vs k → ¬ F k := fun k hk e => hW.out.far k e hk
    have bm1 := hW.out.bm.only o1.out far
    refine ⟨c.st.Q.length, F', vs, openC c, [], rfl, .inr ⟨rfl, hnil.out⟩, by show c.S ++ _ = _; rw [hnil.out], ?_, o1.out.mono (fun k _ e => .inl e), fun k hk => ?_, fun k hk => ?_, fun s hs => (bm1.side hs).1⟩
    · refine ⟨a1.out, ?_, fun k hk hb => ?_, hW.out.lo⟩
      · have := bm1
        rw [hnil.out] at this
        exact this
      · rcases n1.out k hk with e | e
        · exact hW.out.far k e hb
        · have := hW.out.bm.lt hb; omega
    · rcases hk with hk | hk
      · rcases n1.out k hk with e | e
        · exact .inl (.inl e)
        · exact .inr e
      · exact .inl (.inr hk)
    · by_cases h1 : F k
      · exact .inr (.inl h1)
      · rcases Nat.lt_or_ge k w.heap.size with h2 | h2
        · exact .inl (o1.out.block k h2 h1).symm
        · exact .inr (.inr h2)
  · have hcon' : c.S = S0 ++ [q] := by simpa using hcon
    have hlen : c.S.length = S0.length + 1 := by rw [hcon']; simp
    obtain ⟨n, en⟩ : ∃ n, S0.length = n := ⟨_, rfl⟩
    obtain ⟨m, em⟩ : ∃ m, c.S.length = m := ⟨_, rfl⟩
    have hmn : m = n + 1 := by omega
    obtain ⟨g, cap', cur, ev2, hg0, hgl, hgh, b3, b4, b5, b6⟩ := hW.out.bm.sp.open' (by omega)
    rw [em] at ev2 b3
    have hcell : w.cell? ⟨g, n, none⟩ = some (.int .i64 (q : Int)) := by
      have := hv.2 n q (by rw [hcon', ← en]; simp)
      obtain ⟨b', off, eA, hcc⟩ := this
      have eA2 := ev.symm.trans ev2
      injection eA2 with z1 z2 z3
      rw [eA] at z1
      injection z1 with z1
      injection z1 with z1 z4
      have := hcc 0 _ rfl
      rw [z1, z4] at this
      have h9 : w.cell? ⟨g, 0 + n * 1 + 0, none⟩ = some (.int .i64 (q : Int)) := this
      simpa using h9
    rw [ev2] at x1
    have hcap : m ≤ cap' := b3
    have hcap2 : cap' ≤ 9223372036854775807 := by unfold maxLen at b4; omega
    have hown2 : Own fN 3 w 0 (.slice (some ⟨g, 0, none⟩) n cap') S0 := by
      have h0 := hW.out.bm.sp
      rw [ev2] at h0
      have := h0.cut (k := n) (by omega)
      rwa [show c.S.take n = S0 by rw [hcon', ← en]; simp] at this
    have hvb : vs.ownBlock = some g := by rw [ev2]; rfl
    have hset := Lib.hid (hW.out.bm.setSpare (v := .slice (some ⟨g, 0, none⟩) n cap') hown2 (fun k hk => ⟨by
        have hk' : g = k := by injection hk
        subst hk'; exact hW.out.bm.sb g hvb, fun s' hs' e => by
        have hk' : g = k := by injection hk
        subst hk'; exact (hW.out.bm.vb s' hs' g e).2 hvb⟩))
    have hd1 : IntKind.i64.wrap ((m : Int) - 1) = (n : Int) := by rw [show (m : Int) - 1 = (n : Int) by omega]; exact IntWalk.i64_in _ (by omega)
    have hd2 : (m : Int) - 1 = (n : Int) := by omega
    have hd3 : ¬ (n : Int) < 0 := by omega
    have hd4 : n < m := by omega
    have hd5 : n ≤ cap' := by omega
    replace hcon' := Lib.hid hcon'
    replace hvb := Lib.hid hvb
    replace hmn := Lib.hid hmn
    clear ev ev2 hv hc hA b3 b4 b5 b6 hgh hgl hg0 hown2 hlen en em hcon hc3
    go_enter Try.func39, Try.ntmps39
    go_wp2_with fail
    go_ret
    refine ⟨q, F, .slice (some ⟨g, 0, none⟩) n cap', c, S0, rfl, .inl rfl, hcon'.out, ?_, (set_only w b 504 _).mono (fun k _ e => .inr (.inl e)), fun k hk => .inl ?_, fun k hk => .inl ?_, fun s hs => (hset.out.side hs).1⟩
    · have hfo : ∀ k, bfoot b V (.slice (some ⟨g, 0, none⟩) n cap') k → bfoot b V vs k := fun k hk => by
        rcases hk with e | e | e | e
        · exact .inl e
        · exact .inr (.inl e)
        · exact .inr (.inr (.inl e))
        · refine .inr (.inr (.inr ?_))
          have hk' : g = k := by injection e
          rw [← hk']; exact hvb.out
      exact ⟨hW.out.ar.only (set_only w b 504 _) (fun k hk e => hW.out.far k hk (.inl e)), hset.out, fun k hk e => hW.out.far k hk (hfo k e), fun k hk => hW.out.lo k (hfo k hk)⟩
    · rcases hk with hk | e | e | e | e
      · exact .inl hk
      · exact .inr (.inl e)
      · exact .inr (.inr (.inl e))
      · exact .inr (.inr (.inr (.inl e)))
      · refine .inr (.inr (.inr (.inr ?_)))
        have hk' : g = k := by injection e
        rw [← hk']; exact hvb.out
    · exact (heap_setCell_other w ⟨b, 504, none⟩ k _ (fun e => hk (by first | exact e | exact e.symm))).symm
end Go.Proofs.Ytlknlicokacoiaa
