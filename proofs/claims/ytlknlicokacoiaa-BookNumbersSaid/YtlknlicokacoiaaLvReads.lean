/-
  Rows of entries; contracts: List, Total, Count, of level.
-/
import Derived.Test.YtlknlicokacoiaaLvAct
namespace Go.Proofs.Ytlknlicokacoiaa
open Go.RowKit
set_option linter.unusedVariables false
set_option linter.unusedSimpArgs false

def En.row (e : En) : List Value := [.int .i64 (e.s : Int), .int .i64 e.i, .int .i64 e.n, .bool e.t]
def rowsN : List En → List Value
  | [] => []
  | e :: l => e.row ++ rowsN l
theorem rowsN_len (l : List En) : (rowsN l).length = l.length * 4 := by
  induction l with
  | nil => rfl
  | cons r l ih => rw [rowsN, List.length_append, ih, List.length_cons]; show 4 + _ = _; omega
theorem rowsN_app (a b : List En) : rowsN (a ++ b) = rowsN a ++ rowsN b := by
  induction a with
  | nil => rfl
  | cons x a ih => rw [List.cons_append, rowsN, rowsN, ih, List.append_assoc]
theorem rowsN_one (e : En) : rowsN [e] = e.row := by simp [rowsN]
theorem rowsN_get (l : List En) : ∀ (j m : Nat) (e : En), l[j]? = some e → m < 4 → (rowsN l)[j * 4 + m]? = e.row[m]? := by
  induction l with
  | nil => intro j m r hj; simp at hj
  | cons x l ih =>
    intro j m r hj hm
    have h4 : x.row.length = 4 := rfl
    cases j with
    | zero =>
      rw [rowsN, List.getElem?_append_left (by rw [h4]; omega)]
      simp at hj; subst hj; simp
    | succ j =>
      rw [rowsN, List.getElem?_append_right (by rw [h4]; omega), h4, show (j + 1) * 4 + m - 4 = j * 4 + m by omega]
      exact ih j m r (by simpa using hj) hm
theorem row_one_cell (e : En) : ∀ u ∈ e.row, u.oneCell' = true := by
  intro u hu
  simp only [En.row, List.mem_cons, List.not_mem_nil, or_false] at hu
  rcases hu with rfl | rfl | rfl | rfl <;> rfl
theorem rows_one_cell (l : List En) : ∀ u ∈ rowsN l, u.oneCell' = true := by
  induction l with
  | nil => intro u hu; cases hu
  | cons e l ih =>
    intro u hu
    rcases List.mem_append.1 hu with h | h
    · exact row_one_cell e u h
    · exact ih u h
/-- The slice of this address and length holds these orders. -/
def HE (w : World) (A : Option Addr) (n : Nat) (l : List En) : Prop :=
  l.length = n ∧ ∀ j e, l[j]? = some e → ∃ b off, A = some ⟨b, off, none⟩ ∧ w.cell? ⟨b, off + j * 4, none⟩ = some (.int .i64 (e.s : Int)) ∧ w.cell? ⟨b, off + j * 4 + 1, none⟩ = some (.int .i64 e.i) ∧ w.cell? ⟨b, off + j * 4 + 2, none⟩ = some (.int .i64 e.n) ∧ w.cell? ⟨b, off + j * 4 + 3, none⟩ = some (.bool e.t)
theorem HE.below {w w' : World} {A : Option Addr} {n : Nat} {l : List En} (h : HE w A n l) (hb : Below w.heap.size w w') : HE w' A n l := by
  refine ⟨h.1, fun j e he => ?_⟩
  obtain ⟨b, off, e, c0, c1, c2, c3⟩ := h.2 j e he
  have keep : ∀ {p : Addr} {v : Value}, w.cell? p = some v → w'.cell? p = some v := fun {p v} hc => (hb.cell (p := p) (World.block_lt_of_cell? w _ hc)).trans hc
  exact ⟨b, off, e, keep c0, keep c1, keep c2, keep c3⟩
/-- The call's own slice v, from block number base on, of elements of type T, holds these orders. -/
def RE (T : TypeId) (w : World) (base : Nat) (v : Value) (l : List En) : Prop := w.ownsRow base T 4 v l.length (rowsN l)
theorem re_nil (T : TypeId) (w : World) (base : Nat) : RE T w base (.slice none 0 0) [] := World.ownsRow_nil w base _ _
theorem RE.keep {T : TypeId} {w w' : World} {base : Nat} {v : Value} {l : List En} (h : RE T w base v l) (hb : Below w.heap.size w w') : RE T w' base v l := row_only h (only_below hb) (fun _ _ e => e)
theorem RE.base {T : TypeId} {w : World} {base base' : Nat} {v : Value} {l : List En} (h : RE T w base v l) (hb : base' ≤ base) : RE T w base' v l := by
  refine ⟨h.1, ?_⟩
  rcases h.2 with h | ⟨g, cap, cur, rfl, h2, h3⟩
  · exact .inl h
  · exact .inr ⟨g, cap, cur, rfl, by omega, h3⟩
theorem RE.slice {T : TypeId} {w : World} {base : Nat} {v : Value} {l : List En} (h : RE T w base v l) : ∃ A cap, v = .slice A l.length cap ∧ HE w A l.length l ∧ l.length ≤ cap ∧ cap ≤ 9223372036854775807 ∧ (∀ ad, A = some ad → ad.off = 0 ∧ ad.spot = none ∧ base ≤ ad.block ∧ ad.block < w.heap.size) := by
  rcases h.2 with ⟨rfl, e⟩ | ⟨g, cap, cur, rfl, h1, h2, hc, hm, hs, ht⟩
  · have e2 : l = [] := List.eq_nil_of_length_eq_zero e
    subst e2
    exact ⟨none, 0, rfl, ⟨rfl, fun j e he => by simp at he⟩, Nat.le_refl _, by omega, fun ad e => by cases e⟩
  · simp only [maxLen] at hm
    refine ⟨_, cap, rfl, ⟨rfl, fun j e he => ⟨g, 0, rfl, ?_⟩⟩, hc, by omega, fun ad e => by cases e; exact ⟨rfl, rfl, h1, (Array.getElem?_eq_some_iff.1 h2).1⟩⟩
    have hj : j < l.length := (List.getElem?_eq_some_iff.1 he).1
    rw [Nat.zero_add]
    have each : ∀ m (hm : m < 4), w.cell? ⟨g, j * 4 + m, none⟩ = e.row[m]? := fun m hm => by
      rw [Lib.cell_of_heap h2, ← rowsN_get l j m e he hm, ← ht, List.getElem?_take, if_pos (by omega), Array.getElem?_toList]
    exact ⟨each 0 (by omega), each 1 (by omega), each 2 (by omega), each 3 (by omega)⟩
theorem info_entry : (Try.prog.info? 90).map (fun i => (i.zero, i.size, i.bytes)) = some (some (.agg #[.int .i64 0, .int .i64 0, .int .i64 0, .bool false]), 4, 32) := by kernel_rfl
theorem St.Ok.short {st : St} (h : st.Ok) {q : Nat} {l : List En} (hl : st.Q[q]? = some l) : l.length ≤ st.U.length := by
  have a := sum_set List.length st.Q q l [] hl
  have b := h.sum
  have c := List.count_le_length (a := true) (l := st.U)
  rw [List.length_nil] at a
  omega
theorem listO_cases (st : St) (q : Int) : (∃ (k : Nat) (l : List En), q = k ∧ st.Q[k]? = some l ∧ listO st q = l) ∨ (¬ (0 ≤ q ∧ q < (st.Q.length : Int)) ∧ listO st q = []) := by
  unfold listO
  split
  · rename_i h
    obtain ⟨k, rfl⟩ := Int.eq_ofNat_of_zero_le h.1
    obtain ⟨l, hl⟩ : ∃ l, st.Q[k]? = some l := ⟨_, List.getElem?_eq_getElem (by omega)⟩
    exact .inl ⟨k, l, rfl, hl, by rw [Int.toNat_natCast]; exact getD_at' hl⟩
  · rename_i h; exact .inr ⟨h, rfl⟩
where
  getD_at' {l : List (List En)} {i : Nat} {x d : List En} (h : l[i]? = some x) : l.getD i d = x := by simp [List.getD, h]
/-- The first slot of whatever queue. -/
theorem First_any (c s : Nat) (q : Value) (L : List Pl) (E : List (Int × Int)) (st : St) (i : Int) (w : World) (hA : Hid (Ar c s q L E w)) (hI : Hid (Inv L E st)) (hQ : st.Q.length ≤ 1000000) :
    Calls Try.prog 66 #[.pointer (some ⟨c, 0, none⟩), .int .i64 i] w fun e w' => e = .returned (.int .i64 (hdS (listO st i) (-1))) ∧ w = w' := by
  rcases listO_cases st i with ⟨k, l, rfl, hl, e⟩ | ⟨h, e⟩
  · rw [e]
    exact First_at c s q L E k _ w hA (by rw [hI.out.elen]; omega) (hI.out.seg k l hl).1
  · rw [e]
    exact First_no c s q L E i w hA (by rw [hI.out.elen]; omega) (by rw [hI.out.elen]; exact h)
/-- At each order of a queue: its place, and where the next one stands. -/
theorem Inv.walk {L : List Pl} {E : List (Int × Int)} {st : St} (h : Inv L E st) {i : Int} {A C : List En} {e : En} (he : listO st i = A ++ e :: C) : ∃ k p, L[e.s]? = some ⟨(e.s : Int), e.i, e.n, e.t, k, p, hdS C (-1)⟩ ∧ 1 ≤ e.n ∧ e.n ≤ 1000000 ∧ (A ++ e :: C).length ≤ st.U.length := by
  rcases listO_cases st i with ⟨k, l, rfl, hl, e0⟩ | ⟨_, e0⟩
  · rw [he] at e0
    subst e0
    obtain ⟨f1, f2, f3⟩ := h.ok.fit _ _ e hl (by simp)
    exact ⟨_, _, (h.seg _ _ hl).2.at, f1, f2, h.ok.short hl⟩
  · rw [he] at e0; simp at e0
theorem listO_len {L : List Pl} {E : List (Int × Int)} {st : St} (h : Inv L E st) (i : Int) : (listO st i).length ≤ st.U.length := by
  rcases listO_cases st i with ⟨k, l, rfl, hl, e0⟩ | ⟨_, e0⟩
  · rw [e0]; exact h.ok.short hl
  · rw [e0]; simp
theorem below_up {a w w' : World} (h : Below a.heap.size a w) (hk : Below w.heap.size w w') : Below a.heap.size a w' := h.trans (hk.mono h.size)
theorem Ar.below {c s : Nat} {q : Value} {L : List Pl} {E : List (Int × Int)} {w w' : World} (h : Ar c s q L E w) (hb : Below w.heap.size w w') : Ar c s q L E w' := h.only (only_below hb) (fun _ _ e => e)
set_option maxRecDepth 100000 in
set_option maxHeartbeats 2000000 in
theorem List_any (B c : Nat) (F : Nat → Prop) (st : St) (i : Int) (w : World) (hA0 : Hid (AR B c F st w)) (hQ : st.Q.length ≤ 1000000) :
    Calls Try.prog 54 #[.pointer (some ⟨c, 0, none⟩), .int .i64 i] w fun e w' => ∃ v, e = .returned v ∧ RE 90 w' w.heap.size v (listO st i) ∧ Below w.heap.size w w' := by
  obtain ⟨s, v, L, E, eF, hA, hI, hB⟩ := hA0.out
  obtain ⟨i0, hi0, hz0, hz1, hz2⟩ := info_parts info_entry
  replace hA := Lib.hid hA
  replace hI := Lib.hid hI
  have HF := Lib.hid (First_any c s v L E st i w hA hI hQ)
  have hr := hA.out.room
  have hlen := listO_len hI.out i
  rw [← hI.out.len] at hlen
  obtain ⟨N, eN⟩ : ∃ N, L.length = N := ⟨_, rfl⟩
  rw [eN] at hr hlen
  replace eN := Lib.hid eN
  obtain ⟨l0, el0⟩ : ∃ l, listO st i = l := ⟨_, rfl⟩
  rw [el0] at HF hlen ⊢
  have el := Lib.hid el0
  have b1 : Hid (Below w.heap.size w w) := Lib.hid (Below.refl _ _)
  have R1 : Hid (RE 90 w w.heap.size (.slice none 0 0) []) := Lib.hid (re_nil _ _ _)
  obtain ⟨g, eg⟩ : ∃ g, w.heap.size = g := ⟨_, rfl⟩
  rw [eg] at R1 ⊢
  replace eg := Lib.hid eg
  have E1 : Hid (l0 = [] ++ l0) := Lib.hid rfl
  clear eF el0 hB hA0
  go_enter Try.func54, Try.ntmps54
  go_wp2_with fail
  refine HF.out.mono ?_
  rintro e w' ⟨rfl, rfl⟩
  go_wp2_with fail
  go_loopw [5, 6] (fun v i wr => ∃ (A C : List En), i = .int .i64 (hdS C (-1)) ∧ Hid (l0 = A ++ C) ∧ A.length + C.length ≤ N ∧ Hid (RE 90 wr g v A) ∧ Hid (Below w.heap.size w wr)) (fun v _ _ => N - (match v with | .slice _ n _ => n | _ => 0))
  case atStart => exact ⟨[], l0, rfl, E1, by simpa using hlen, R1, b1⟩
  case round =>
    clear R1 b1 E1 hlen
    obtain ⟨A, C, rfl, hl, hn, hR, hW⟩ := hrel
    cases C with
    | nil =>
      have hfin : Hid (l0 = A) := Lib.hid (by rw [hl.out, List.append_nil])
      clear hl
      go_wp2_with fail
      go_ret
      exact ⟨_, rfl, by rw [hfin.out]; exact hR.out, by rw [← eg.out]; exact hW.out⟩
    | cons e C =>
      obtain ⟨k, p, hL, n1, n2, -⟩ := hI.out.walk (i := i) (A := A) (C := C) (e := e) (by rw [el.out]; exact hl.out)
      have hA2 := Lib.hid (hA.out.below hW.out)
      obtain ⟨x0, x1, f0, f1⟩ := hA2.out.cells
      obtain ⟨⟨p0, p1, p2, p3, p4, p5, p6⟩, -⟩ := hA2.out.seven hL
      have hs : e.s < N := by rw [← eN.out]; exact (List.getElem?_eq_some_iff.1 hL).1
      rw [eN.out] at x0
      obtain ⟨A1, cap1, eu, hH, hc1, hc2, -⟩ := hR.out.slice
      rw [hdS_cons]
      obtain ⟨z, ez⟩ : ∃ z, hdS C (-1) = z := ⟨_, rfl⟩
      rw [ez] at p6
      replace ez := Lib.hid ez
      replace hL := Lib.hid hL
      obtain ⟨m, ii, nn, tt⟩ := e
      simp only at p0 p1 p2 p3 p4 p5 p6 n1 n2 hs ⊢
      have dm : ((m : Int) != -1) = true := by simp
      obtain ⟨a1, ea1⟩ : ∃ n, A.length = n := ⟨_, rfl⟩
      simp only [List.length_cons] at hn
      rw [ea1] at hn eu hc1
      subst eu
      replace ea1 := Lib.hid ea1
      clear hH hc1 hc2
      have R2 := Lib.hid (World.ownsRow.alloc hR.out (.cells #[.int .i64 (m : Int), .int .i64 ii, .int .i64 nn, .bool tt] 90))
      have R2' : Hid ((wr.alloc (.cells #[.int .i64 (m : Int), .int .i64 ii, .int .i64 nn, .bool tt] 90)).ownsRow g 90 4 (.slice A1 a1 cap1) a1 (rowsN A)) := Lib.hid (by have := R2.out; rw [ea1.out] at this; exact this)
      have hgw : Hid (g ≤ (wr.alloc (.cells #[.int .i64 (m : Int), .int .i64 ii, .int .i64 nn, .bool tt] 90)).heap.size) := Lib.hid (by have := hW.out.size; rw [World.size_alloc, ← eg.out]; omega)
      clear R2
      go_wp2_with (at_builtin; refine wpList_append_lies _ rfl (.tmp 20) (.tmp 29) 107 rfl g 90 i0 (.agg #[.int .i64 0, .int .i64 0, .int .i64 0, .bool false]) 4 32 Try.underlying107 hi0 hz0 hz1 hz2 rfl (by decide) (.slice A1 a1 cap1) a1 _ rfl R2'.out ⟨wr.heap.size, 0, none⟩ 1 1 [.int .i64 (m : Int), .int .i64 ii, .int .i64 nn, .bool tt] rfl rfl (World.news_of_block (heap_alloc_new wr _)) (row_one_cell ⟨m, ii, nn, tt⟩) (by omega) (by unfold maxLen; omega) (by omega) hgw.out _ rfl ?_)
      intro g4 cap4 w4 r4 g4' h4 l4
      have B4 : Hid (Below w.heap.size w w4) := Lib.hid ((hW.out.alloc hW.out.size _).grown g4' (by have := hW.out.size; rw [World.size_alloc]; omega) (fun q hq => by rw [eg.out]; exact (World.ownsRow.lt R2'.out q hq).1))
      have R4 : Hid (RE 90 w4 g (.slice (some ⟨g4, 0, none⟩) (a1 + 1) cap4) (A ++ [⟨m, ii, nn, tt⟩])) := Lib.hid (by
        unfold RE
        rw [List.length_append, List.length_singleton, ea1.out, rowsN_app, rowsN_one]
        exact r4)
      have E4 : Hid (l0 = (A ++ [⟨m, ii, nn, tt⟩]) ++ C) := Lib.hid (by rw [hl.out]; simp)
      have hA4 := Lib.hid (hA.out.below B4.out)
      clear x0 x1 f0 f1 p0 p1 p2 p3 p4 p5 p6 hA2 R2' hgw r4 g4' h4 l4 hR hW hl
      obtain ⟨x0, x1, f0, f1⟩ := hA4.out.cells
      rw [eN.out] at x0
      obtain ⟨⟨p0, p1, p2, p3, p4, p5, p6⟩, -⟩ := hA4.out.seven hL.out
      simp only at p6
      clear p0 p1 p2 p3 p4 p5 hA4
      go_wp2_with fail
      go_roundw
      case rel => exact ⟨A ++ [⟨m, ii, nn, tt⟩], C, by rw [ez.out], E4, by rw [List.length_append, List.length_singleton, ea1.out]; omega, R4, B4⟩
      case measure => simp; omega
/-- The sum from the first on. -/
theorem sumN_snoc (A : List En) (e : En) : sumN (A ++ [e]) = sumN A + e.n := by simp [sumN, List.foldl_append]
theorem sumN_nil : sumN [] = 0 := rfl
theorem sumN_bound : ∀ (A : List En), (∀ e ∈ A, 1 ≤ e.n ∧ e.n ≤ 1000000) → 0 ≤ sumN A ∧ sumN A ≤ 1000000 * A.length := by
  intro A
  suffices h : ∀ (A : List En) (x : Int), (∀ e ∈ A, 1 ≤ e.n ∧ e.n ≤ 1000000) → x ≤ (A.map En.n).foldl (· + ·) x ∧ (A.map En.n).foldl (· + ·) x ≤ x + 1000000 * A.length by
    intro hA
    have := h A 0 hA
    unfold sumN
    omega
  intro A
  induction A with
  | nil => intro x _; simp
  | cons e A ih =>
    intro x hA
    have h1 := hA e (by simp)
    have h2 := ih (x + e.n) (fun y hy => hA y (by simp [hy]))
    simp only [List.map_cons, List.foldl_cons, List.length_cons]
    omega
theorem listO_fit {st : St} (h : st.Ok) (i : Int) : ∀ e ∈ listO st i, 1 ≤ e.n ∧ e.n ≤ 1000000 ∧ I64 e.i := by
  rcases listO_cases st i with ⟨k, l, rfl, hl, e0⟩ | ⟨_, e0⟩
  · rw [e0]; exact fun e he => h.fit _ _ e hl he
  · rw [e0]; intro e he; cases he
set_option maxRecDepth 100000 in
set_option maxHeartbeats 2000000 in
theorem Total_any (B c : Nat) (F : Nat → Prop) (st : St) (i : Int) (w : World) (hA0 : Hid (AR B c F st w)) (hQ : st.Q.length ≤ 1000000) :
    Calls Try.prog 65 #[.pointer (some ⟨c, 0, none⟩), .int .i64 i] w fun e w' => e = .returned (.int .i64 (sumN (listO st i))) ∧ w = w' := by
  obtain ⟨s, v, L, E, eF, hA, hI, hB⟩ := hA0.out
  replace hA := Lib.hid hA
  replace hI := Lib.hid hI
  have HF := Lib.hid (First_any c s v L E st i w hA hI hQ)
  have hr := hA.out.room
  have hlen := listO_len hI.out i
  rw [← hI.out.len] at hlen
  have hft := Lib.hid (listO_fit hI.out.ok i)
  obtain ⟨x0, x1, f0, f1⟩ := hA.out.cells
  obtain ⟨N, eN⟩ : ∃ N, L.length = N := ⟨_, rfl⟩
  rw [eN] at hr hlen x0
  replace eN := Lib.hid eN
  obtain ⟨l0, el0⟩ : ∃ l, listO st i = l := ⟨_, rfl⟩
  rw [el0] at HF hlen hft ⊢
  have el := Lib.hid el0
  have E1 : Hid (l0 = [] ++ l0) := Lib.hid rfl
  clear eF el0 hB hA0
  go_enter Try.func65, Try.ntmps65
  go_wp2_with fail
  refine HF.out.mono ?_
  rintro e w' ⟨rfl, rfl⟩
  go_wp2_with fail
  go_loop [5, 6] (fun v i => ∃ (A C : List En), i = .int .i64 (hdS C (-1)) ∧ v = .int .i64 (sumN A) ∧ Hid (l0 = A ++ C) ∧ A.length + C.length ≤ N ∧ 0 ≤ sumN A ∧ sumN A ≤ 1000000 * A.length) (fun v _ => (5000000000 - intOf v).toNat)
  case atStart => exact ⟨[], l0, rfl, rfl, E1, by simpa using hlen, by rw [sumN_nil]; omega, by rw [sumN_nil]; simp⟩
  case round =>
    clear E1 hlen
    obtain ⟨A, C, rfl, rfl, hl, hn, s1, s2⟩ := hrel
    cases C with
    | nil =>
      have hfin : Hid (l0 = A) := Lib.hid (by rw [hl.out, List.append_nil])
      clear hl
      go_wp2_with fail
      go_ret
      exact ⟨by rw [hfin.out]; rfl, rfl⟩
    | cons e C =>
      obtain ⟨k, p, hL, n1, n2, -⟩ := hI.out.walk (i := i) (A := A) (C := C) (e := e) (by rw [el.out]; exact hl.out)
      obtain ⟨⟨p0, p1, p2, p3, p4, p5, p6⟩, -⟩ := hA.out.seven hL
      have hs : e.s < N := by rw [← eN.out]; exact (List.getElem?_eq_some_iff.1 hL).1
      rw [hdS_cons]
      obtain ⟨z, ez⟩ : ∃ z, hdS C (-1) = z := ⟨_, rfl⟩
      rw [ez] at p6
      replace ez := Lib.hid ez
      have hsn := Lib.hid (sumN_snoc A e)
      obtain ⟨m, ii, nn, tt⟩ := e
      simp only at p0 p1 p2 p3 p4 p5 p6 n1 n2 hs hsn ⊢
      have dm : ((m : Int) != -1) = true := by simp
      obtain ⟨a1, ea1⟩ : ∃ n, A.length = n := ⟨_, rfl⟩
      simp only [List.length_cons] at hn
      rw [ea1] at hn s2
      replace ea1 := Lib.hid ea1
      have E4 : Hid (l0 = (A ++ [⟨m, ii, nn, tt⟩]) ++ C) := Lib.hid (by rw [hl.out]; simp)
      obtain ⟨sA, esA⟩ : ∃ x, sumN A = x := ⟨_, rfl⟩
      rw [esA] at s1 s2 hsn ⊢
      clear esA p0 p1 p3 p4 p5 hL hl
      go_wp2_with fail
      go_round
      case rel => exact ⟨A ++ [⟨m, ii, nn, tt⟩], C, by rw [ez.out], by rw [hsn.out], E4, by rw [List.length_append, List.length_singleton, ea1.out]; omega, by rw [hsn.out]; omega, by rw [hsn.out, List.length_append, List.length_singleton, ea1.out]; omega⟩
      case measure => simp [intOf]; omega
set_option maxRecDepth 100000 in
set_option maxHeartbeats 2000000 in
theorem Count_any (B c : Nat) (F : Nat → Prop) (st : St) (i : Int) (w : World) (hA0 : Hid (AR B c F st w)) (hQ : st.Q.length ≤ 1000000) :
    Calls Try.prog 63 #[.pointer (some ⟨c, 0, none⟩), .int .i64 i] w fun e w' => e = .returned (.int .i64 ((listO st i).length : Int)) ∧ w = w' := by
  obtain ⟨s, v, L, E, eF, hA, hI, hB⟩ := hA0.out
  replace hA := Lib.hid hA
  replace hI := Lib.hid hI
  have HF := Lib.hid (First_any c s v L E st i w hA hI hQ)
  have hr := hA.out.room
  have hlen := listO_len hI.out i
  rw [← hI.out.len] at hlen
  obtain ⟨x0, x1, f0, f1⟩ := hA.out.cells
  obtain ⟨N, eN⟩ : ∃ N, L.length = N := ⟨_, rfl⟩
  rw [eN] at hr hlen x0
  replace eN := Lib.hid eN
  obtain ⟨l0, el0⟩ : ∃ l, listO st i = l := ⟨_, rfl⟩
  rw [el0] at HF hlen ⊢
  have el := Lib.hid el0
  have E1 : Hid (l0 = [] ++ l0) := Lib.hid rfl
  clear eF el0 hB hA0
  go_enter Try.func63, Try.ntmps63
  go_wp2_with fail
  refine HF.out.mono ?_
  rintro e w' ⟨rfl, rfl⟩
  go_wp2_with fail
  go_loop [5, 6] (fun v i => ∃ (A C : List En) (a : Nat), i = .int .i64 (hdS C (-1)) ∧ v = .int .i64 (a : Int) ∧ Hid (a = A.length) ∧ Hid (l0 = A ++ C) ∧ a + C.length ≤ N) (fun v _ => (N - intOf v).toNat)
  case atStart => exact ⟨[], l0, 0, rfl, rfl, Lib.hid rfl, E1, by simpa using hlen⟩
  case round =>
    clear E1 hlen
    obtain ⟨A, C, a1, rfl, rfl, ea1, hl, hn⟩ := hrel
    cases C with
    | nil =>
      have hfin : Hid (l0.length = a1) := Lib.hid (by rw [hl.out, List.append_nil, ea1.out])
      clear hl
      go_wp2_with fail
      go_ret
      exact ⟨by rw [hfin.out]; rfl, rfl⟩
    | cons e C =>
      obtain ⟨k, p, hL, n1, n2, -⟩ := hI.out.walk (i := i) (A := A) (C := C) (e := e) (by rw [el.out]; exact hl.out)
      obtain ⟨⟨p0, p1, p2, p3, p4, p5, p6⟩, -⟩ := hA.out.seven hL
      have hs : e.s < N := by rw [← eN.out]; exact (List.getElem?_eq_some_iff.1 hL).1
      rw [hdS_cons]
      obtain ⟨z, ez⟩ : ∃ z, hdS C (-1) = z := ⟨_, rfl⟩
      rw [ez] at p6
      replace ez := Lib.hid ez
      obtain ⟨m, ii, nn, tt⟩ := e
      simp only at p0 p1 p2 p3 p4 p5 p6 n1 n2 hs ⊢
      have dm : ((m : Int) != -1) = true := by simp
      simp only [List.length_cons] at hn
      have E4 : Hid (l0 = (A ++ [⟨m, ii, nn, tt⟩]) ++ C) := Lib.hid (by rw [hl.out]; simp)
      clear p0 p1 p2 p3 p4 p5 hL hl
      go_wp2_with fail
      go_round
      case rel => exact ⟨A ++ [⟨m, ii, nn, tt⟩], C, a1 + 1, by rw [ez.out], by go_num, Lib.hid (by rw [List.length_append, List.length_singleton, ea1.out]), E4, by omega⟩
      case measure => simp [intOf]; omega
end Go.Proofs.Ytlknlicokacoiaa
