/-
  The rows of orders that LevelOrders keeps: an array of three slices; what a push and a take leave of them.
-/
import Derived.Test.YtcfmnmknbebfnaaLvOnto
import Derived.Test.YtcfmnmknbebfnaaLvRef
import Derived.Test.YtcfmnmknbebfnaaLvCalls
import Derived.Test.YtcfmnmknbebfnaaRLvRead
namespace Go.Proofs.Ytcfmnmknbebfnaa
open Go.RowKit
set_option linter.unusedVariables false
set_option linter.unusedSimpArgs false

structure Qr (g base : Nat) (V : List Value) (Q : List (List En)) (w : World) : Prop where
  blk : ∃ (cur : Array Value) (T : TypeId), w.heap[g]? = some (.cells cur T (0, 0)) ∧ cur.toList = V
  len : V.length = Q.length
  rows : ∀ (k : Nat) (v : Value) (l : List En), V[k]? = some v → Q[k]? = some l → RE 40 w base v l
  gb : g < base
  vv : ∀ (i j : Nat) (v v' : Value), V[i]? = some v → V[j]? = some v' → i ≠ j → ∀ k, v.ownBlock = some k → v'.ownBlock ≠ some k
theorem Qr.row {g base : Nat} {V : List Value} {Q : List (List En)} {w : World} (h : Qr g base V Q w) {j : Nat} {v : Value} (hv : V[j]? = some v) : ∃ l, Q[j]? = some l ∧ RE 40 w base v l := by
  obtain ⟨l, hl⟩ : ∃ l, Q[j]? = some l := ⟨_, List.getElem?_eq_getElem (by rw [← h.len]; exact (List.getElem?_eq_some_iff.1 hv).1)⟩
  exact ⟨l, hl, h.rows j v l hv hl⟩
theorem Qr.own {g base : Nat} {V : List Value} {Q : List (List En)} {w : World} (h : Qr g base V Q w) {j : Nat} {v : Value} (hv : V[j]? = some v) {k : Nat} (hk : v.ownBlock = some k) : base ≤ k ∧ k < w.heap.size := by
  obtain ⟨l, _, hr⟩ := h.row hv
  exact World.ownsRow.lt hr k hk
theorem Qr.only {g base : Nat} {V : List Value} {Q : List (List En)} {w : World} {p : Nat → Prop} {w' : World} (h : Qr g base V Q w) (ho : Only p w w') (hp : ∀ k, p k → k < base ∧ k ≠ g) : Qr g base V Q w' := by
  obtain ⟨cur, T, h1, h2⟩ := h.blk
  refine ⟨⟨cur, T, (ho.block g (Array.getElem?_eq_some_iff.1 h1).1 (fun e => (hp g e).2 rfl)).trans h1, h2⟩, h.len, fun k v l hv hl => (h.rows k v l hv hl).only ho (fun b hb e => ?_), h.gb, h.vv⟩
  have := (h.own hv hb).1; have := (hp b e).1; omega
theorem Qr.below {g base : Nat} {V : List Value} {Q : List (List En)} {w : World} {w' : World} (h : Qr g base V Q w) (hb : Below w.heap.size w w') : Qr g base V Q w' := h.only (only_below hb) (fun _ e => e.elim)
theorem Qr.cell {g base : Nat} {V : List Value} {Q : List (List En)} {w : World} (h : Qr g base V Q w) {j : Nat} {v : Value} (hv : V[j]? = some v) : w.cell? ⟨g, j, none⟩ = some v ∧ w.frozen? ⟨g, j, none⟩ = false := by
  obtain ⟨cur, T, h1, h2⟩ := h.blk
  refine ⟨?_, Lib.frozen_of_heap h1 _⟩
  rw [Lib.cell_of_heap h1, ← Array.getElem?_toList, h2]; exact hv
theorem Qr.setN {g base : Nat} {V : List Value} {Q : List (List En)} {w : World} (h : Qr g base V Q w) {k j m b n cap : Nat} {l : List En} {e e' : En} {x : Value} (hv : V[k]? = some (.slice (some ⟨b, 0, none⟩) n cap)) (hl : Q[k]? = some l) (hj : l[j]? = some e) (hm : m < 4) (hr : e'.row = e.row.set m x) :
    Qr g base V (Q.set k (l.set j e')) (w.setCell ⟨b, j * 4 + m, none⟩ x) := by
  have hb := (h.own hv (k := b) rfl).1
  have hg := h.gb
  obtain ⟨cur, T, h1, h2⟩ := h.blk
  refine ⟨⟨cur, T, by rw [set_heap_other (by omega)]; exact h1, h2⟩, by rw [h.len]; simp, fun k' v' l' hv' hl' => ?_, hg, h.vv⟩
  rcases set_get_or hl' with ⟨rfl, rfl⟩ | ⟨hne, hl''⟩
  · rw [hv] at hv'
    injection hv' with hv'
    subst hv'
    exact RE.set (h.rows _ _ _ hv hl) hj hm hr
  · exact (h.rows k' v' l' hv' hl'').only (set_only w b _ _) (fun b' hb' e => h.vv k k' _ v' hv hv' (fun e => hne e.symm) b rfl (by rw [hb', e]))
theorem Qr.setV {g base : Nat} {V : List Value} {Q : List (List En)} {w0 w : World} (h : Qr g base V Q w0) {k : Nat} {v v' : Value} {l l' : List En} (hv : V[k]? = some v) (hl : Q[k]? = some l)
    (ho : Only (fun b => v.ownBlock = some b) w0 w) (hr : RE 40 w base v' l') (hn : ∀ b, v'.ownBlock = some b → v.ownBlock = some b ∨ w0.heap.size ≤ b) :
    Qr g base (V.set k v') (Q.set k l') (w.setCell ⟨g, k, none⟩ v') := by
  have hk : k < V.length := (List.getElem?_eq_some_iff.1 hv).1
  have hg := h.gb
  obtain ⟨cur, T, h1, h2⟩ := h.blk
  have gl : g < w0.heap.size := (Array.getElem?_eq_some_iff.1 h1).1
  have nb : ∀ b, v'.ownBlock = some b → base ≤ b := fun b hb => (World.ownsRow.lt hr b hb).1
  have h1' : w.heap[g]? = some (.cells cur T (0, 0)) := (ho.block g gl (fun e => by have := (h.own hv e).1; omega)).trans h1
  refine ⟨⟨_, T, heap_setCell_same w g k cur _ v' h1', by rw [Array.toList_setIfInBounds, h2]⟩, by simp [h.len], fun k' v2 l2 hv2 hl2 => ?_, hg, fun i j x y hx hy hij b hb => ?_⟩
  · rcases set_get_or hv2 with ⟨rfl, rfl⟩ | ⟨n1, hv2'⟩
    · rcases set_get_or hl2 with ⟨_, rfl⟩ | ⟨n2, _⟩
      · exact hr.only (set_only w g _ _) (fun b hb e => by have := nb b hb; omega)
      · exact absurd rfl n2
    · rcases set_get_or hl2 with ⟨n2, _⟩ | ⟨_, hl2'⟩
      · exact absurd n2 n1
      · exact ((h.rows k' v2 l2 hv2' hl2').only ho (fun b hb e => h.vv k k' v v2 hv hv2' (fun e => n1 e.symm) b e hb)).only (set_only w g _ _) (fun b hb e => by have := (h.own hv2' hb).1; omega)
  · have old : ∀ (j : Nat) (y : Value), V[j]? = some y → ∀ b, y.ownBlock = some b → b < w0.heap.size := fun j y hy b hb => (h.own hy hb).2
    rcases set_get_or hx with ⟨rfl, rfl⟩ | ⟨n1, hx'⟩
    · rcases set_get_or hy with ⟨n2, _⟩ | ⟨n2, hy'⟩
      · exact absurd n2.symm hij
      · intro hyb
        rcases hn b hb with e | e
        · exact h.vv _ _ _ _ hv hy' (fun e => n2 e.symm) b e hyb
        · have := old j y hy' b hyb; omega
    · rcases set_get_or hy with ⟨rfl, rfl⟩ | ⟨n2, hy'⟩
      · intro hyb
        rcases hn b hyb with e | e
        · exact h.vv _ _ _ _ hv hx' (fun e => n1 e.symm) b e hb
        · have := old i x hx' b hb; omega
      · exact h.vv _ _ _ _ hx' hy' hij b hb
/-- What a step of the law leaves of the rest of memory: nothing of blocks below 'base' but block g. -/
theorem Qr.appended {g base g4 n' cap4 : Nat} {vk : Value} {V : List Value} {Q : List (List En)} {W1 w4 : World} {o : Obj} (h : Qr g base V Q W1) (hb : base ≤ W1.heap.size) {k : Nat} {l l' : List En} (hv : V[k]? = some vk) (hl : Q[k]? = some l)
    (hr : RE 40 w4 base (.slice (some ⟨g4, 0, none⟩) n' cap4) l') (hg : (W1.drew.alloc o).grownBy w4 vk.ownBlock) (h4 : vk.ownBlock = some g4 ∨ g4 = W1.heap.size + 1) :
    Qr g base (V.set k (.slice (some ⟨g4, 0, none⟩) n' cap4)) (Q.set k l') (w4.setCell ⟨g, k, none⟩ (.slice (some ⟨g4, 0, none⟩) n' cap4)) ∧ Only (fun b => b = g ∨ base ≤ b) W1 (w4.setCell ⟨g, k, none⟩ (.slice (some ⟨g4, 0, none⟩) n' cap4)) := by
  have O1 : Only (fun b => vk.ownBlock = some b) W1 w4 := by
    have x := alloc_only W1 o
    have a : Only (fun _ => False) W1 (W1.drew.alloc o) := ⟨x.os, x.tape, x.output, x.size, x.block⟩
    exact (a.mono (fun _ _ e => e.elim)).step (only_grown hg) (fun i hi e => e.symm)
  have hnew : ∀ b, (Value.slice (some ⟨g4, 0, none⟩) n' cap4).ownBlock = some b → vk.ownBlock = some b ∨ W1.heap.size ≤ b := fun b hb => by
    have e : g4 = b := by injection hb
    subst e
    rcases h4 with e | e
    · exact .inl e
    · right; omega
  refine ⟨h.setV hv hl O1 hr hnew, ?_⟩
  exact (O1.mono (fun b _ e => .inr (h.own hv e).1)).trans ((set_only w4 g k _).mono (fun b _ e => .inl e))
theorem Qr.replaced {g base : Nat} {vk v6 : Value} {V : List Value} {Q : List (List En)} {W1 w6 : World} (h : Qr g base V Q W1) {k : Nat} {l l' : List En} (hv : V[k]? = some vk) (hl : Q[k]? = some l)
    (D : Below W1.heap.size W1 w6) (hr : RE 40 w6 base v6 l') (hb : ∀ q, v6.ownBlock = some q → W1.heap.size ≤ q) :
    Qr g base (V.set k v6) (Q.set k l') (w6.setCell ⟨g, k, none⟩ v6) ∧ Only (fun b => b = g ∨ base ≤ b) W1 (w6.setCell ⟨g, k, none⟩ v6) := by
  have O1 : Only (fun b => vk.ownBlock = some b) W1 w6 := (only_below D).mono (fun _ _ e => e.elim)
  exact ⟨h.setV hv hl O1 hr (fun b e => .inr (hb b e)), (O1.mono (fun b _ e => .inr (h.own hv e).1)).trans ((set_only w6 g k _).mono (fun b _ e => .inl e))⟩
theorem Qr.zero {g : Nat} {T : TypeId} {w : World} {base : Nat} (h : w.heap[g]? = some (.cells #[.slice none 0 0, .slice none 0 0, .slice none 0 0] T (0, 0))) (hb : g < base) : Qr g base [.slice none 0 0, .slice none 0 0, .slice none 0 0] [[], [], []] w := by
  refine ⟨⟨_, T, h, rfl⟩, rfl, fun k v l hv hl => ?_, hb, fun i j v v' hv hv' hij k hk => ?_⟩
  · match k, hv, hl with
    | 0, hv, hl => simp at hv hl; subst hv hl; exact re_nil _ _ _
    | 1, hv, hl => simp at hv hl; subst hv hl; exact re_nil _ _ _
    | 2, hv, hl => simp at hv hl; subst hv hl; exact re_nil _ _ _
    | k + 3, hv, hl => simp at hv
  · match i, hv with
    | 0, hv => simp at hv; subst hv; cases hk
    | 1, hv => simp at hv; subst hv; cases hk
    | 2, hv => simp at hv; subst hv; cases hk
    | i + 3, hv => simp at hv

/-! Which answers come when. -/
theorem low_full {U : List Bool} (h : lowF U 0 = -1) : U.count true = U.length := by
  rcases lowF_cases U 0 with ⟨_, h2⟩ | ⟨j, h1, _⟩
  · exact List.count_eq_length.2 (fun b hb => (h2 b hb).symm)
  · rw [h] at h1; omega
theorem low_room {U : List Bool} {j : Nat} (h : U[j]? = some false) : U.count true < U.length := by
  have h1 := count_set U j h
  have h2 : (U.set j true).count true ≤ (U.set j true).length := List.count_le_length
  rw [List.length_set] at h2
  omega
theorem pushO_at {st : St} {k : Nat} {l : List En} (hl : st.Q[k]? = some l) (i : Int) {n : Int} (t : Bool) (n1 : 1 ≤ n) (n2 : n ≤ 1000000) :
    (lowF st.U 0 = -1 ∧ pushO st (k : Int) i n t = (0, 13, st)) ∨ ∃ j : Nat, st.U[j]? = some false ∧ pushO st (k : Int) i n t = ((j : Int), 0, st.pushed k j l ⟨j, i, n, t⟩) := by
  have hk := (List.getElem?_eq_some_iff.1 hl).1
  unfold pushO
  rw [if_neg (by omega), if_neg (by omega)]
  rcases lowF_cases st.U 0 with ⟨h1, _⟩ | ⟨j, h1, h2, _⟩
  · exact .inl ⟨h1, if_pos h1⟩
  · refine .inr ⟨j, h2, ?_⟩
    rw [if_neg (by rw [h1]; omega), h1]
    rw [show (((0 + j : Nat) : Int)).toNat = j by omega, Int.toNat_natCast, show ((0 + j : Nat) : Int) = (j : Int) by omega]
    rw [List.getD_eq_getElem?_getD, hl]
    rfl
theorem findQ_hit {slot : Int} {A C : List En} {e : En} (hA : ∀ x ∈ A, (x.s : Int) ≠ slot) (he : (e.s : Int) = slot) : ∀ (Q : List (List En)) (k j : Nat), Q[j]? = some (A ++ e :: C) → (∀ i l, i < j → Q[i]? = some l → ∀ x ∈ l, (x.s : Int) ≠ slot) → findQ slot Q k = some (k + j, A, e, C) := by
  intro Q
  induction Q with
  | nil => intro k j h _; simp at h
  | cons l Q ih =>
    intro k j h hf
    cases j with
    | zero =>
      simp at h; subst h
      show (match cutIn slot (A ++ e :: C) with | some (A, e, C) => some (k, A, e, C) | none => findQ slot Q (k + 1)) = _
      rw [cutIn_hit hA he]; rfl
    | succ j =>
      show (match cutIn slot l with | some (A, e, C) => some (k, A, e, C) | none => findQ slot Q (k + 1)) = _
      rw [cutIn_miss (hf 0 l (by omega) rfl)]
      show findQ slot Q (k + 1) = _
      rw [ih (k + 1) j (by simpa using h) (fun i l' hi hl => hf (i + 1) l' (by omega) (by simpa using hl)), show k + 1 + j = k + (j + 1) by omega]
theorem takeO_at {st : St} (h : st.Ok) {k : Nat} {A C : List En} {e : En} (hl : st.Q[k]? = some (A ++ e :: C)) {n : Int} (n1 : 1 ≤ n) (n2 : n ≤ e.n) :
    takeO st (e.s : Int) n = if e.n - n = 0 then (0, st.gone k e.s (A ++ C)) else (0, st.turned k (A ++ { e with n := e.n - n } :: C)) := by
  have hf := findQ_hit (C := C) (fun x hx => by have := (nodup_mid (h.nd k _ hl)).2.2.2.1 x hx; omega) rfl st.Q 0 k hl (fun i l hi hl' x hx => by
    have := h.far i k l _ hl' hl (by omega) x hx e (by simp); omega)
  unfold takeO
  rw [hf]
  simp only [Nat.zero_add]
  rw [if_neg (by omega)]
/-- The arena, and the law's own rows: as they stand in memory. -/
structure Ow (B c : Nat) (F : Nat → Prop) (g base R : Nat) (st : St) (Q : List (List En)) (V : List Value) (w wx : World) : Prop where
  ar : AR B c F st wx
  three : Q.length = 3
  qlen : st.Q.length = 3
  len : st.U.length = R
  qs : Qr g base V Q wx
  fb : ∀ k, F k → k < base ∧ k ≠ g
  bel : Below B w wx
  bsz : base ≤ wx.heap.size
  gB : B ≤ g
theorem Ow.below {B c : Nat} {F : Nat → Prop} {g base R : Nat} {st : St} {Q : List (List En)} {V : List Value} {w wx wy : World} (h : Ow B c F g base R st Q V w wx) (hb : Below wx.heap.size wx wy) : Ow B c F g base R st Q V w wy :=
  ⟨h.ar.below hb, h.three, h.qlen, h.len, h.qs.below hb, h.fb, h.bel.trans (hb.mono (by have := h.bsz; have := h.gB; have := h.qs.gb; omega)), Nat.le_trans h.bsz hb.size, h.gB⟩
/-- Behind a call that changed the arena alone. -/
theorem Ow.step {B c : Nat} {F : Nat → Prop} {g base R : Nat} {st st' : St} {Q : List (List En)} {V : List Value} {w wx wy : World} (h : Ow B c F g base R st Q V w wx) (a : AR B c F st' wy) (o : Only F wx wy) (hq : st'.Q.length = 3) (hu : st'.U.length = R) : Ow B c F g base R st' Q V w wy :=
  ⟨a, h.three, hq, hu, h.qs.only o h.fb, h.fb, h.bel.trans (o.below (by have := h.bsz; have := h.gB; have := h.qs.gb; omega) (fun k hk e => by have := (h.ar.lt e).1; omega)), Nat.le_trans h.bsz o.size, h.gB⟩
/-- Behind a change of the law's rows alone. -/
theorem Ow.turn {B c : Nat} {F : Nat → Prop} {g base R : Nat} {st : St} {Q Q' : List (List En)} {V V' : List Value} {w wx wy : World} (h : Ow B c F g base R st Q V w wx) (q : Qr g base V' Q' wy) (o : Only (fun b => b = g ∨ base ≤ b) wx wy) (h3 : Q'.length = 3) : Ow B c F g base R st Q' V' w wy :=
  ⟨h.ar.only o (fun k hk e => by have := h.fb k hk; omega), h3, h.qlen, h.len, q, h.fb, h.bel.trans (o.below (by have := h.bsz; have := h.gB; have := h.qs.gb; omega) (fun k hk e => by have := h.gB; have := h.qs.gb; omega)), Nat.le_trans h.bsz o.size, h.gB⟩
/-- A store into a variable of the law's own that is newer than the rows. -/
theorem Ow.far {B c : Nat} {F : Nat → Prop} {g base R : Nat} {st : St} {Q : List (List En)} {V : List Value} {w wx : World} (h : Ow B c F g base R st Q V w wx) {xb j : Nat} {x : Value} (hx : base ≤ xb) (hv : ∀ (j : Nat) (v : Value) (q : Nat), V[j]? = some v → v.ownBlock = some q → q < xb) : Ow B c F g base R st Q V w (wx.setCell ⟨xb, j, none⟩ x) := by
  obtain ⟨cur, T, h1, h2⟩ := h.qs.blk
  have hg := h.qs.gb
  have hB := h.gB
  refine ⟨h.ar.only (set_only wx xb j x) (fun k hk e => by have := (h.fb k hk).1; omega), h.three, h.qlen, h.len, ⟨⟨cur, T, by rw [set_heap_other (by omega)]; exact h1, h2⟩, h.qs.len, fun k v l hv' hl => (h.qs.rows k v l hv' hl).only (set_only wx xb j x) (fun b hb e => by have := hv k v b hv' hb; omega), hg, h.qs.vv⟩, h.fb, h.bel.setCell (p := ⟨xb, j, none⟩) (by show B ≤ xb; omega) _, ?_, hB⟩
  have := h.bsz
  rw [show (wx.setCell ⟨xb, j, none⟩ x).heap.size = wx.heap.size by simp]; exact this
/-- What the walk reads of a row's order. -/
theorem Ow.at {B c : Nat} {F : Nat → Prop} {g base R : Nat} {st : St} {Q : List (List En)} {V : List Value} {w wx : World} (h : Ow B c F g base R st Q V w wx) {k b nl cap : Nat} {l : List En} (hv : V[k]? = some (.slice (some ⟨b, 0, none⟩) nl cap)) (hl : Q[k]? = some l) {j : Nat} {e : En} (hj : l[j]? = some e) :
    (wx.cell? ⟨g, k, none⟩ = some (.slice (some ⟨b, 0, none⟩) nl cap) ∧ wx.frozen? ⟨g, k, none⟩ = false) ∧ (wx.cell? ⟨b, j * 4, none⟩ = some (.int .i64 (e.s : Int)) ∧ wx.cell? ⟨b, j * 4 + 2, none⟩ = some (.int .i64 e.n)) ∧ (∀ m, wx.frozen? ⟨b, m, none⟩ = false) := by
  obtain ⟨b', cap', e1, _, _, ⟨c0, _, c2, _⟩, f⟩ := (h.qs.rows k _ l hv hl).at hj
  injection e1 with e1 _ _
  injection e1 with e1
  injection e1 with e1
  subst e1
  exact ⟨h.qs.cell hv, ⟨c0, c2⟩, f⟩
end Go.Proofs.Ytcfmnmknbebfnaa
