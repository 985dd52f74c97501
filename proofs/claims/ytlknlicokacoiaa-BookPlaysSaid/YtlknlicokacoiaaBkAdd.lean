/-
  Contract: Add, of book.
-/
import Derived.Test.YtlknlicokacoiaaBkAddP
namespace Go.Proofs.Ytlknlicokacoiaa
open Go.RowKit
set_option linter.unusedVariables false
set_option linter.unusedSimpArgs false

def AddPost (B b a : Nat) (F : Nat → Prop) (V : Nat → Value) (vs : Value) (r : Int × List Or) (w : World) (e : Ending) (w' : World) : Prop :=
  ∃ F' V' vs' c', e = .returned (.int .i64 r.1) ∧ Wb B b a F' V' vs' c' w' ∧ CInv noEx c' ∧ c'.abs = r.2 ∧ c'.st.Q.length ≤ 250 ∧ Only (wfoot b F V vs) w w' ∧ (∀ k, wfoot b F' V' vs' k → wfoot b F V vs k ∨ w.heap.size ≤ k)
/-- Ahead of the push: the row of this price is there. -/
def AddMid (B b a : Nat) (F : Nat → Prop) (V : Nat → Value) (vs : Value) (s : Nat) (p : Int) (k : Nat) (L : List Or) (w : World) (wx : World) : Prop :=
  ∃ F' V' vs' c' X q Y, Wb B b a F' V' vs' c' wx ∧ CInv (fun j => j = q) c' ∧ c'.R s = X ++ (p, q) :: Y ∧ X.length = k ∧ c'.abs = L ∧ c'.st.Q.length ≤ 250 ∧ Only (wfoot b F V vs) w wx ∧ (∀ k, wfoot b F' V' vs' k → wfoot b F V vs k ∨ w.heap.size ≤ k)
theorem CInv.rows_le {ex : Nat → Prop} {c : Cs} (h : CInv ex c) (s : Nat) : (c.R s).length ≤ c.st.Q.length := by
  have h1 : (rowQs c).length = c.st.Q.length := by rw [h.part.length_eq, List.length_range]
  unfold rowQs at h1
  rw [List.length_append, List.length_append, List.length_map, List.length_map] at h1
  rcases Nat.decEq s 1 with h2 | rfl
  · rcases Nat.decEq s 2 with h3 | rfl
    · rw [h.none' s h2 h3]; exact Nat.zero_le _
    · omega
  · omega
theorem endC_q (c : Cs) (s : Nat) : (endC c s).st.Q.length = c.st.Q.length := by
  unfold endC
  split
  · rfl
  · split
    · rfl
    · exact List.length_set
theorem side_few (st : St) (s : Int) : ∀ {R : List (Int × Nat)}, (∀ r ∈ R, lq st r.2 ≠ []) → R.length ≤ (sideO st s R).length := by
  intro R
  induction R with
  | nil => intro _; exact Nat.le_refl _
  | cons r R ih =>
    intro h
    have h1 := ih (fun x hx => h x (by simp [hx]))
    have h2 : 0 < (lq st r.2).length := List.length_pos_iff.2 (h r (by simp))
    rw [sideO, List.length_append, List.length_cons, rowO, List.length_map]; omega
theorem CInv.open_few {c : Cs} (h : CInv noEx c) (hS : c.S = []) : c.st.Q.length ≤ c.abs.length := by
  have h1 : (rowQs c).length = c.st.Q.length := by rw [h.part.length_eq, List.length_range]
  unfold rowQs at h1
  rw [hS, List.append_nil, List.length_append, List.length_map, List.length_map] at h1
  have a1 := side_few c.st 1 (R := c.R 1) (fun r hr => (h.full 1 r hr).resolve_left (fun f => f))
  have a2 := side_few c.st 2 (R := c.R 2) (fun r hr => (h.full 2 r hr).resolve_left (fun f => f))
  unfold Cs.abs
  rw [List.length_append]; omega
theorem clrL_len (L : List Or) (s p : Int) : L.length = (clrL L s p).length := by
  unfold clrL; split
  · rw [List.length_map]
  · rfl
def AddCtx (B b a : Nat) (F : Nat → Prop) (V : Nat → Value) (vs : Value) (c : Cs) (s : Nat) (p : Int) (L : List Or) (w wy : World) : Prop :=
  Wb B b a F V vs c wy ∧ CInv noEx c ∧ c.abs = L ∧ Below w.heap.size w wy
section
variable {B b a : Nat} {F : Nat → Prop} {V : Nat → Value} {vs : Value}
theorem AddMid.cells {s : Nat} {p : Int} {k : Nat} {L : List Or} {w wx : World} (hs : s = 1 ∨ s = 2) (h : AddMid B b a F V vs s p k L w wx) :
    ∃ (F' : Nat → Prop) (V' : Nat → Value) (vs' : Value) (c' : Cs) (X : List (Int × Nat)) (q : Nat) (Y : List (Int × Nat)) (g n cap : Nat), Wb B b a F' V' vs' c' wx ∧ CInv (fun j => j = q) c' ∧ c'.R s = X ++ (p, q) :: Y ∧ X.length = k ∧ c'.abs = L ∧ c'.st.Q.length ≤ 250 ∧ Only (wfoot b F V vs) w wx ∧ (∀ k, wfoot b F' V' vs' k → wfoot b F V vs k ∨ w.heap.size ≤ k) ∧
      wx.cell? ⟨b, 0, none⟩ = some (.pointer (some ⟨a, 0, none⟩)) ∧ wx.cell? ⟨b, 501 + s, none⟩ = some (.slice (some ⟨g, 0, none⟩) n cap) ∧ k < n ∧ wx.cell? ⟨g, k * 2 + 1, none⟩ = some (.int .i64 (q : Int)) ∧ ¬ F' b ∧ ¬ F' g ∧ b < wx.heap.size ∧ g < wx.heap.size := by
  obtain ⟨F', V', vs', c', X, q, Y, h1, h2, h3, h4, h5, hq, h6, h7⟩ := h
  obtain ⟨g, cap, cur, ev, -, hgl, -, b3, b4, -, -⟩ := (h1.bm.rw s hs).open' (by rw [h3]; simp; omega)
  obtain ⟨A, cap', ev2, hv, -, -, -, -⟩ := (h1.bm.rw s hs).slice
  have eA : some ⟨g, 0, none⟩ = A := by
    have := ev.symm.trans ev2
    injection this
  subst eA
  obtain ⟨b', off, eb, x1, x2⟩ := hv.atR (j := k) (x := (p, q)) (by rw [h3, ← h4]; simp)
  injection eb with eb
  injection eb with eb eb2
  subst eb; subst eb2
  have c1 := (h1.bm.side hs).1
  rw [ev] at c1
  have hvb : (V' s).ownBlock = some g := by rw [ev]; rfl
  refine ⟨F', V', vs', c', X, q, Y, g, (c'.R s).length, cap, h1, h2, h3, h4, h5, hq, h6, h7, h1.bm.arena.1, c1, by rw [h3, ← h4]; simp, by simpa using x2, fun e => h1.far b e (.inl rfl), fun e => h1.far g e (bfoot_v hs hvb), h1.bm.lt (.inl rfl), hgl⟩
end
theorem alloc_cell {W : World} {a : Addr} {v : Value} (o : Obj) (h : W.cell? a = some v) : (W.alloc o).cell? a = some v := (((Below.refl W.heap.size W).alloc (Nat.le_refl _) o).cell (p := a) (World.block_lt_of_cell? W _ h)).trans h
theorem build_seat (s p : Int) : ∀ W : World, (Instr.build 59 #[(0, .int .i64 s), (1, .int .i64 p)]).run Try.prog W = .ok (.agg #[.int .i64 s, .int .i64 p]) W := fun W => by kernel_rfl
theorem build_row (p q : Int) : ∀ W : World, (Instr.build 86 #[(0, .int .i64 p), (1, .int .i64 q)]).run Try.prog W = .ok (.agg #[.int .i64 p, .int .i64 q]) W := fun W => by kernel_rfl
theorem add_after {B b a : Nat} {F : Nat → Prop} {V : Nat → Value} {vs : Value} {c1 : Cs} {s k : Nat} {p : Int} {L : List Or} {w w5 : World} {A : Option Addr} {ml capl : Nat} (hs : s = 1 ∨ s = 2) (h1 : Wb B b a F V vs c1 w5) (hI1 : CInv noEx c1) (hL : c1.abs = L) (hf : foundB (s : Int) p (c1.R s) = false) (hk : placeN (s : Int) p (c1.R s) = k) (hp : I64 p) (hQ : c1.st.Q.length ≤ 250) (hlen : c1.abs.length < 250) (hw : Only (wfoot b F V vs) w w5) (hB : B ≤ w.heap.size) (hV : V s = .slice A ml capl) :
    ∀ (w6 : World) (q : Nat) (F' : Nat → Prop) (vs' : Value) (c2 : Cs) (S0 : List Nat), (c2 = c1 ∨ c2 = openC c1 ∧ c1.S = []) → c2.S = S0 ++ [q] → Wb B b a F' V vs' { c2 with S := S0 } w6 → Only (wfoot b F V vs) w5 w6 → (∀ k, wfoot b F' V vs' k → wfoot b F V vs k ∨ w5.heap.size ≤ k) →
      True ∧ ∀ w7, w6.alloc (.cells #[.int .i64 p, .int .i64 (q : Int)] 86) = w7 →
        Calls Try.prog 38 #[.slice A ml capl, .int .i64 (k : Int), .slice (some ⟨w6.heap.size, 0, none⟩) 1 1] w7 (InsPost w7 (.slice A ml capl) ((c1.R s).take k ++ (p, q) :: (c1.R s).drop k)) ∧ (∃ l8, ((c1.R s).take k ++ (p, q) :: (c1.R s).drop k).length = l8) ∧
        ∀ w8 v8, Own fR 86 w8 0 v8 ((c1.R s).take k ++ (p, q) :: (c1.R s).drop k) → Only (fun j => (Value.slice A ml capl).ownBlock = some j) w7 w8 → (∀ j, v8.ownBlock = some j → (Value.slice A ml capl).ownBlock = some j ∨ w7.heap.size ≤ j) →
          w8.cell? ⟨b, 501 + s, none⟩ = some (.slice A ml capl) ∧ w8.frozen? ⟨b, 501 + s, none⟩ = false ∧ AddMid B b a F V vs s p k L w (w8.setCell ⟨b, 501 + s, none⟩ v8) := by
  intro w6 q F' vs' c2 S0 e1 e2 e3 e4 e5
  refine ⟨trivial, fun w7 ew7 => ?_⟩
  obtain ⟨hI2, ea2, eR2, hQ2⟩ : CInv noEx c2 ∧ c2.abs = c1.abs ∧ c2.R = c1.R ∧ c2.st.Q.length ≤ 250 := by
    rcases e1 with rfl | ⟨rfl, hS⟩
    · exact ⟨hI1, rfl, rfl, hQ⟩
    · obtain ⟨a1, a2⟩ := hI1.open'
      have := hI1.open_few hS
      refine ⟨a1, a2, rfl, ?_⟩
      show (c1.st.Q ++ [[]]).length ≤ 250
      rw [List.length_append, List.length_singleton]; omega
  obtain ⟨X, Y, hR, hX, hbX, hbY⟩ := place_not (hI1.sort s) hf
  have hX' : X.length = k := hX.trans hk
  have et : (c1.R s).take k = X := by rw [hR, ← hX']; simp
  have ed : (c1.R s).drop k = Y := by rw [hR, ← hX']; simp
  obtain ⟨i3, a3, -⟩ := hI2.row' (q := q) (p := p) (X := X) (Y := Y) (S0 := S0) hs (by rw [eR2]; exact hR) e2 hp hbX hbY
  have b67 : Below w6.heap.size w6 w7 := by rw [← ew7]; exact (Below.refl _ _).alloc (Nat.le_refl _) _
  have e7 := e3.below b67
  have hown : Own fR 86 w7 0 (V s) (c1.R s) := by have := e7.bm.rw s hs; simpa [eR2] using this
  have hRl : (c1.R s).length ≤ 100000 := by have := hI1.rows_le s; omega
  have hb7 : w7.heap[w6.heap.size]? = some (.cells #[.int .i64 p, .int .i64 (q : Int)] 86 (0, 0)) := by rw [← ew7]; exact heap_alloc_new w6 _
  have hne : (V s).ownBlock ≠ some w6.heap.size := fun e => by have := e3.bm.lt (bfoot_v hs e); omega
  have hIns := Insert_any (V s) (c1.R s) k w6.heap.size p q w7 (Lib.hid hown) hRl (by rw [hR]; simp; omega) (Lib.hid hb7) hne
  rw [hV] at hIns
  refine ⟨hIns, ⟨_, rfl⟩, fun w8 v8 o8 on8 n8 => ?_⟩
  rw [et, ed] at o8
  rw [← hV] at on8 n8
  have bnv : (V s).ownBlock ≠ some b := fun e => (e7.bm.vb s hs b e).1 rfl
  have hb8 := on8.block b (e7.bm.lt (.inl rfl)) bnv
  obtain ⟨c7, f7⟩ := e7.bm.side hs
  rw [hV] at c7
  refine ⟨(World.cell?_of_block (a := ⟨b, 501 + s, none⟩) hb8).trans c7, (World.frozen?_of_block (a := ⟨b, 501 + s, none⟩) hb8).trans f7, ?_⟩
  obtain ⟨g1, g2, g3⟩ := e7.bm.swapSide hs on8 o8 n8
  have s5 := hw.size
  have s6 := e4.size
  have s7 := b67.size
  have hall : ∀ j, wfoot b F' (updV V s v8) vs' j → wfoot b F V vs j ∨ w.heap.size ≤ j := fun j hj => by
    have : wfoot b F' V vs' j ∨ w7.heap.size ≤ j := by
      rcases hj with e | e
      · exact .inl (.inl e)
      · exact (g2 j e).imp .inr id
    rcases this with e | e
    · exact (e5 j e).imp id (fun e => by omega)
    · exact .inr (by omega)
  refine ⟨F', updV V s v8, vs', { c2 with R := upd c2.R s (X ++ (p, q) :: Y), S := S0 }, X, q, Y, ⟨e7.ar.only g3 (fun j hj e => e7.far j hj e), by rw [eR2]; rw [eR2] at g1; exact g1, fun j hj e => ?_, fun j hj => ?_⟩, i3, upd_at _ _ _, hX', (a3.trans ea2).trans hL, hQ2, ?_, hall⟩
  · rcases g2 j e with e2 | e2
    · exact e3.far j hj e2
    · have := (e7.lt (k := j) (.inl hj)).2; omega
  · rcases g2 j hj with e2 | e2
    · exact e3.lo j e2
    · omega
  · refine (hw.trans (e4.step (only_below b67) (fun _ _ e => e.elim))).step g3 (fun j hj e => ?_)
    exact (e5 j (.inr e)).resolve_right (by omega)
set_option maxRecDepth 100000 in
set_option maxHeartbeats 4000000 in
theorem Add_any (B b a : Nat) (F : Nat → Prop) (V : Nat → Value) (vs : Value) (c : Cs) (i s p n : Int) (w : World) (hW : Hid (Wb B b a F V vs c w)) (hI : Hid (CInv noEx c)) (hi : Hid (I64 i)) (hp : Hid (I64 p)) (hQ : c.st.Q.length ≤ 250) :
    Calls Try.prog 14 #[.pointer (some ⟨b, 0, none⟩), .int .i64 i, .int .i64 s, .int .i64 p, .int .i64 n] w (AddPost B b a F V vs (addO c.abs i s p n) w) := by
  have HR := Lib.hid (Refusal_any B b a F V vs c i s n w hW hI)
  have eadd := addO_ref c.abs i s p n
  by_cases hz : refO c.abs i s n = 0
  · obtain ⟨hs', n1, n2, hno, hlen⟩ := refO_zero hz
    rw [if_pos hz] at eadd
    rw [eadd]
    rw [hz] at HR
    obtain ⟨sn, rfl⟩ : ∃ sn : Nat, s = sn := ⟨s.toNat, by omega⟩
    have hs : sn = 1 ∨ sn = 2 := by omega
    have hsh := Lib.hid hs
    have s3 : (sn : Int) < 3 := by omega
    have hRl : (c.R sn).length ≤ 250 := Nat.le_trans (hI.out.rows_le sn) hQ
    obtain ⟨k, ek⟩ : ∃ k, placeN (sn : Int) p (c.R sn) = k := ⟨_, rfl⟩
    obtain ⟨f, ef⟩ : ∃ f, foundB (sn : Int) p (c.R sn) = f := ⟨_, rfl⟩
    have htop := hI.out.top hs p
    rw [ek, ef] at htop
    have hkl : k ≤ 250 := by rw [← ek]; exact Nat.le_trans (placeN_le _ _ _) hRl
    have HP : Hid (∀ wy, Below w.heap.size w wy → ∃ A m cap, V sn = .slice A m cap ∧ wy.cell? ⟨b, 501 + sn, none⟩ = some (.slice A m cap) ∧ Calls Try.prog 36 #[.slice A m cap, .int .i64 (sn : Int), .int .i64 p] wy (fun e w' => e = .returned (.tuple #[.int .i64 (k : Int), .bool f]) ∧ Below wy.heap.size wy w')) := Lib.hid (fun wy h => by
      have hy := hW.out.below h
      obtain ⟨A, cap, ev, hv, -, -, -, -⟩ := (hy.bm.rw sn hs).slice
      have c1 := (hy.bm.side hs).1
      have := Place_any A (c.R sn).length cap (sn : Int) p (c.R sn) wy (Lib.hid hv) (by omega)
      rw [ek, ef] at this
      exact ⟨A, _, cap, ev, by rw [c1, ev], this⟩)
    cases f with
    | true =>
      rw [Bool.not_true, Bool.and_false] at htop
      have hmid : Hid (∀ wy, Below w.heap.size w wy → AddMid B b a F V vs sn p k (clrL c.abs (sn : Int) p) w wy) := Lib.hid (fun wy h => by
        obtain ⟨X, q, Y, hR, hX⟩ := place_found (hI.out.sort sn) ef
        refine ⟨F, V, vs, c, X, q, Y, hW.out.below h, hI.out.mono (fun _ f => f.elim), hR, hX.trans ek, ?_, hQ, (only_below h).mono (fun _ _ e => e.elim), fun k hk => .inl hk⟩
        unfold clrL; rw [if_neg (by rw [htop]; decide)])
      replace htop := Lib.hid htop
      replace hlen := Lib.hid hlen
      replace hno := Lib.hid hno
      clear hRl hQ hz hs' hs eadd
      by_cases hk0 : k = 0
      · subst hk0
        clear ek ef hkl
        go_enter Try.func14, Try.ntmps14
        go_wp2_with fail
        refine HR.out.mono ?_
        rintro e w1 ⟨rfl, b1⟩
        obtain ⟨A, ml, capl, eV, x1, HP1⟩ := HP.out w1 b1
        replace HP1 := Lib.hid HP1
        replace eV := Lib.hid eV
        go_wp2_with fail
        refine HP1.out.mono ?_
        rintro e w2 ⟨rfl, b2⟩
        have M := Lib.hid (hmid.out w2 (b1.trans (b2.mono b1.size)))
        clear x1 b1 b2 HP1
        go_wp2_with fail
        obtain ⟨F', V', vs', c', X, q, Y, g, nn, cap, m1, m2, m3, m4, m5, mQ, m6, m7, y0, y1, y2, y3, y4, y5, y6, y7⟩ := M.out.cells hsh.out
        have mlen : c'.abs.length < 250 := by rw [m5]; exact clrL_len _ _ _ ▸ hlen.out
        obtain ⟨m, em, hm⟩ := free_slot m2 mlen
        have hm250 : m < 250 := by rw [← m2.room]; exact (List.getElem?_eq_some_iff.1 hm).1
        have hqQ := (m2.apart m3).lt
        have eP : pushO c'.st (q : Int) i n false = ((m : Int), 0, c'.st.pushed q m (lq c'.st q) ⟨m, i, n, false⟩) := by
          unfold pushO
          rw [if_neg (by omega), if_neg (by omega), if_neg (by omega), em, Int.toNat_natCast, Int.toNat_natCast]; rfl
        have HPu := Push_any B a F' c'.st (q : Int) i n false w2.drew (Lib.hid (m1.ar.below ⟨rfl, rfl, rfl, Nat.le_refl _, fun _ _ => rfl⟩)) (by omega) hi (by unfold I64; omega)
        rw [eP] at HPu
        simp only at HPu
        replace HPu := Lib.hid HPu
        have fin := Lib.hid (add_plain (n := n) m2 hsh.out m3 m5 hno.out hm n1 n2 hi.out)
        rw [htop.out] at fin
        have hw0 : (fun W : World => W.cell? ⟨b, 0, none⟩ = some (.pointer (some ⟨a, 0, none⟩)) ∧ W.cell? ⟨b, 501 + sn, none⟩ = some (.slice (some ⟨g, 0, none⟩) nn cap) ∧ W.cell? ⟨g, 0 * 2 + 1, none⟩ = some (.int .i64 (q : Int))) w2.drew := ⟨y0, y1, y3⟩
        have LF : Hid (∀ Y, Only F' w2.drew Y → (fun W : World => W.cell? ⟨b, 0, none⟩ = some (.pointer (some ⟨a, 0, none⟩)) ∧ W.cell? ⟨b, 501 + sn, none⟩ = some (.slice (some ⟨g, 0, none⟩) nn cap) ∧ W.cell? ⟨g, 0 * 2 + 1, none⟩ = some (.int .i64 (q : Int))) Y) := Lib.hid (fun Y o =>
          ⟨(World.cell?_of_block (a := ⟨b, 0, none⟩) (o.block b y6 y4)).trans y0, (World.cell?_of_block (a := ⟨b, 501 + sn, none⟩) (o.block b y6 y4)).trans y1, (World.cell?_of_block (a := ⟨g, 0 * 2 + 1, none⟩) (o.block g y7 y5)).trans y3⟩)
        obtain ⟨yT, hyT⟩ : ∃ y, c'.T[m]? = some y := ⟨_, List.getElem?_eq_getElem (by rw [m2.tl]; exact hm250)⟩
        have bmF : Hid (∀ Y, Only F' w2.drew Y → Bm b a V' vs' c'.R c'.T c'.S Y) := Lib.hid (fun Y o => m1.bm.only ⟨o.os, o.tape, o.output, o.size, o.block⟩ (fun j hj e => m1.far j e hj))
        have hm250i : (m : Int) < 250 := by omega
        have lows : Hid (∀ wE, AR B a F' (c'.st.pushed q m (lq c'.st q) ⟨m, i, n, false⟩) wE → Bm b a V' vs' c'.R (c'.T.set m ((sn : Int), p)) c'.S wE → Only (wfoot b F' V' vs') w2 wE → AddPost B b a F V vs (0, insO c.abs i (sn : Int) p n) w (.returned (.int .i64 0)) wE) := Lib.hid (fun wE ha hb ho =>
          ⟨F', V', vs', _, rfl, ⟨ha, hb, m1.far, m1.lo⟩, fin.out.1, fin.out.2, by show (c'.st.Q.set q _).length ≤ 250; rw [List.length_set]; exact mQ, m6.step ho (fun j hj e => (m7 j e).resolve_right (by omega)), m7⟩)
        have hbs := build_seat (sn : Int) p
        have hbfF : Hid (F' b → False) := Lib.hid y4
        replace hyT := Lib.hid hyT
        clear m1 m2 m3 m4 m5 mQ m6 m7 y0 y1 y3 y4 y5 y6 y7 mlen em hm hqQ eP fin hm250
        go_region_held3 (fun W : World => W.cell? ⟨b, 0, none⟩ = some (.pointer (some ⟨a, 0, none⟩)) ∧ W.cell? ⟨b, 501 + sn, none⟩ = some (.slice (some ⟨g, 0, none⟩) nn cap) ∧ W.cell? ⟨g, 0 * 2 + 1, none⟩ = some (.int .i64 (q : Int))) (first | with_reducible assumption | with_reducible exact hw0 | with_reducible exact z5) ((go_at_call 40; refine HPu.out.mono ?_; rintro e w5 ⟨rfl, a5, o5⟩; have z5 := LF.out w5 o5; replace a5 := Lib.hid a5; replace o5 := Lib.hid o5))
        have b5 := bmF.out w5 o5.out
        obtain ⟨t0, t1, t2, t3⟩ := b5.seat hyT.out
        have bset := Lib.hid (b5.setSeat (j := m) (x := ((sn : Int), p)) (by omega))
        have oset : Hid (Only (fun j => j = b) w5 ((w5.setCell ⟨b, 1 + m * 2, none⟩ (.int .i64 (sn : Int))).setCell ⟨b, 1 + m * 2 + 1, none⟩ (.int .i64 p))) := Lib.hid ((set_only w5 b _ _).trans (set_only _ b _ _))
        have oW : Hid (Only F' w2 w5) := Lib.hid ⟨o5.out.os, o5.out.tape, o5.out.output, o5.out.size, o5.out.block⟩
        clear z5 hw0 LF b5 HPu
        go_wp2_with fail
        go_ret
        exact lows.out _ (a5.out.only oset.out (fun j hj e => hbfF.out (e ▸ hj))) bset.out ((oW.out.mono (fun j _ e => .inl e)).trans (oset.out.mono (fun j _ e => .inr (.inl e))))
      · have dk : ((k : Int) == 0) = false := by simpa using hk0
        have dk2 : ¬ (k : Int) = 0 := by omega
        replace ek := Lib.hid ek
        clear ef
        go_enter Try.func14, Try.ntmps14
        go_wp2_with fail
        refine HR.out.mono ?_
        rintro e w1 ⟨rfl, b1⟩
        obtain ⟨A, ml, capl, eV, x1, HP1⟩ := HP.out w1 b1
        replace HP1 := Lib.hid HP1
        replace eV := Lib.hid eV
        go_wp2_with fail
        refine HP1.out.mono ?_
        rintro e w2 ⟨rfl, b2⟩
        have M := Lib.hid (hmid.out w2 (b1.trans (b2.mono b1.size)))
        clear x1 b1 b2 HP1
        go_wp2_with fail
        obtain ⟨F', V', vs', c', X, q, Y, g, nn, cap, m1, m2, m3, m4, m5, mQ, m6, m7, y0, y1, y2, y3, y4, y5, y6, y7⟩ := M.out.cells hsh.out
        have mlen : c'.abs.length < 250 := by rw [m5]; exact clrL_len _ _ _ ▸ hlen.out
        obtain ⟨m, em, hm⟩ := free_slot m2 mlen
        have hm250 : m < 250 := by rw [← m2.room]; exact (List.getElem?_eq_some_iff.1 hm).1
        have hqQ := (m2.apart m3).lt
        have eP : pushO c'.st (q : Int) i n false = ((m : Int), 0, c'.st.pushed q m (lq c'.st q) ⟨m, i, n, false⟩) := by
          unfold pushO
          rw [if_neg (by omega), if_neg (by omega), if_neg (by omega), em, Int.toNat_natCast, Int.toNat_natCast]; rfl
        have HPu := Push_any B a F' c'.st (q : Int) i n false w2.drew (Lib.hid (m1.ar.below ⟨rfl, rfl, rfl, Nat.le_refl _, fun _ _ => rfl⟩)) (by omega) hi (by unfold I64; omega)
        rw [eP] at HPu
        simp only at HPu
        replace HPu := Lib.hid HPu
        have fin := Lib.hid (add_plain (n := n) m2 hsh.out m3 m5 hno.out hm n1 n2 hi.out)
        rw [htop.out] at fin
        have hw0 : (fun W : World => W.cell? ⟨b, 0, none⟩ = some (.pointer (some ⟨a, 0, none⟩)) ∧ W.cell? ⟨b, 501 + sn, none⟩ = some (.slice (some ⟨g, 0, none⟩) nn cap) ∧ W.cell? ⟨g, k * 2 + 1, none⟩ = some (.int .i64 (q : Int))) w2.drew := ⟨y0, y1, y3⟩
        have LF : Hid (∀ Y, Only F' w2.drew Y → (fun W : World => W.cell? ⟨b, 0, none⟩ = some (.pointer (some ⟨a, 0, none⟩)) ∧ W.cell? ⟨b, 501 + sn, none⟩ = some (.slice (some ⟨g, 0, none⟩) nn cap) ∧ W.cell? ⟨g, k * 2 + 1, none⟩ = some (.int .i64 (q : Int))) Y) := Lib.hid (fun Y o =>
          ⟨(World.cell?_of_block (a := ⟨b, 0, none⟩) (o.block b y6 y4)).trans y0, (World.cell?_of_block (a := ⟨b, 501 + sn, none⟩) (o.block b y6 y4)).trans y1, (World.cell?_of_block (a := ⟨g, k * 2 + 1, none⟩) (o.block g y7 y5)).trans y3⟩)
        obtain ⟨yT, hyT⟩ : ∃ y, c'.T[m]? = some y := ⟨_, List.getElem?_eq_getElem (by rw [m2.tl]; exact hm250)⟩
        have bmF : Hid (∀ Y, Only F' w2.drew Y → Bm b a V' vs' c'.R c'.T c'.S Y) := Lib.hid (fun Y o => m1.bm.only ⟨o.os, o.tape, o.output, o.size, o.block⟩ (fun j hj e => m1.far j e hj))
        have hm250i : (m : Int) < 250 := by omega
        have lows : Hid (∀ wE, AR B a F' (c'.st.pushed q m (lq c'.st q) ⟨m, i, n, false⟩) wE → Bm b a V' vs' c'.R (c'.T.set m ((sn : Int), p)) c'.S wE → Only (wfoot b F' V' vs') w2 wE → AddPost B b a F V vs (0, insO c.abs i (sn : Int) p n) w (.returned (.int .i64 0)) wE) := Lib.hid (fun wE ha hb ho =>
          ⟨F', V', vs', _, rfl, ⟨ha, hb, m1.far, m1.lo⟩, fin.out.1, fin.out.2, by show (c'.st.Q.set q _).length ≤ 250; rw [List.length_set]; exact mQ, m6.step ho (fun j hj e => (m7 j e).resolve_right (by omega)), m7⟩)
        have hbs := build_seat (sn : Int) p
        have hbfF : Hid (F' b → False) := Lib.hid y4
        replace hyT := Lib.hid hyT
        clear m1 m2 m3 m4 m5 mQ m6 m7 y0 y1 y3 y4 y5 y6 y7 mlen em hm hqQ eP fin hm250
        go_region_held3 (fun W : World => W.cell? ⟨b, 0, none⟩ = some (.pointer (some ⟨a, 0, none⟩)) ∧ W.cell? ⟨b, 501 + sn, none⟩ = some (.slice (some ⟨g, 0, none⟩) nn cap) ∧ W.cell? ⟨g, k * 2 + 1, none⟩ = some (.int .i64 (q : Int))) (first | with_reducible assumption | with_reducible exact hw0 | with_reducible exact z5) ((go_at_call 40; refine HPu.out.mono ?_; rintro e w5 ⟨rfl, a5, o5⟩; have z5 := LF.out w5 o5; replace a5 := Lib.hid a5; replace o5 := Lib.hid o5))
        have b5 := bmF.out w5 o5.out
        obtain ⟨t0, t1, t2, t3⟩ := b5.seat hyT.out
        have bset := Lib.hid (b5.setSeat (j := m) (x := ((sn : Int), p)) (by omega))
        have oset : Hid (Only (fun j => j = b) w5 ((w5.setCell ⟨b, 1 + m * 2, none⟩ (.int .i64 (sn : Int))).setCell ⟨b, 1 + m * 2 + 1, none⟩ (.int .i64 p))) := Lib.hid ((set_only w5 b _ _).trans (set_only _ b _ _))
        have oW : Hid (Only F' w2 w5) := Lib.hid ⟨o5.out.os, o5.out.tape, o5.out.output, o5.out.size, o5.out.block⟩
        clear z5 hw0 LF b5 HPu
        go_wp2_with fail
        go_ret
        exact lows.out _ (a5.out.only oset.out (fun j hj e => hbfF.out (e ▸ hj))) bset.out ((oW.out.mono (fun j _ e => .inl e)).trans (oset.out.mono (fun j _ e => .inr (.inl e))))
    | false =>
      have hSq : ∀ q ∈ c.S, q ≤ 1000000 := fun q hq => by have := hI.out.lt (q := q) (List.mem_append.2 (.inr hq)); omega
      have hB : B ≤ w.heap.size := hW.out.size
      by_cases hk0 : k = 0
      · have htop1 : topB c.abs (sn : Int) p = true := by rw [htop, hk0]; rfl
        have hcl : (endC c sn).abs = clrL c.abs (sn : Int) p := by rw [(hI.out.endC hs).2]; unfold clrL; rw [if_pos htop1]
        have hET : Hid (∀ wy, Below w.heap.size w wy → Calls Try.prog 37 #[.pointer (some ⟨b, 0, none⟩), .int .i64 (sn : Int)] wy (EndPost B b a F V vs (endC c sn) wy)) := Lib.hid (fun wy h => EndTop_any B b a F V vs c sn wy (Lib.hid (hW.out.below h)) hI hs (by omega))
        have hEq0 : Hid (∀ wy, Wb B b a F V vs (endC c sn) wy → Calls Try.prog 39 #[.pointer (some ⟨b, 0, none⟩)] wy (EqPost B b a F V vs (endC c sn) wy)) := Lib.hid (fun wy h => EmptyQ_any B b a F V vs (endC c sn) wy (Lib.hid h) (by have := endC_q c sn; omega) (Lib.hid (by rw [(endC_R c sn).2.2]; exact hSq)))
        have hAft0 : Hid (∀ wy A ml capl, Wb B b a F V vs (endC c sn) wy → Only (wfoot b F V vs) w wy → V sn = .slice A ml capl → ∀ (w6 : World) (q : Nat) (F' : Nat → Prop) (vs' : Value) (c2 : Cs) (S0 : List Nat), (c2 = endC c sn ∨ c2 = openC (endC c sn) ∧ (endC c sn).S = []) → c2.S = S0 ++ [q] → Wb B b a F' V vs' { c2 with S := S0 } w6 → Only (wfoot b F V vs) wy w6 → (∀ k, wfoot b F' V vs' k → wfoot b F V vs k ∨ wy.heap.size ≤ k) → _) := Lib.hid (fun wy A ml capl h1 h2 h3 => add_after (k := k) hs h1 (hI.out.endC hs).1 hcl (by rw [(endC_R c sn).1] <;> exact ef) (by rw [(endC_R c sn).1]; exact ek) hp.out (by have := endC_q c sn; omega) (by rw [hcl, ← clrL_len]; exact hlen) h2 hB h3)
        replace htop := Lib.hid htop1
        replace hlen := Lib.hid hlen
        replace hno := Lib.hid hno
        subst hk0
        clear hRl hQ hz hs' hs eadd hSq hB hcl htop1 ek ef hkl
        go_enter Try.func14, Try.ntmps14
        go_wp2_with fail
        refine HR.out.mono ?_
        rintro e w1 ⟨rfl, b1⟩
        obtain ⟨A, ml, capl, eV, x1, HP1⟩ := HP.out w1 b1
        replace HP1 := Lib.hid HP1
        replace eV := Lib.hid eV
        go_wp2_with fail
        refine HP1.out.mono ?_
        rintro e w2 ⟨rfl, b2⟩
        have B2 : Below w.heap.size w w2 := b1.trans (b2.mono b1.size)
        have hE := Lib.hid (hET.out w2 B2)
        replace B2 := Lib.hid B2
        clear x1 b1 b2 HP1 hET
        go_wp2_with fail
        refine hE.out.mono ?_
        rintro e w3 ⟨rfl, W3, o3⟩
        have x2 : w3.cell? ⟨b, 501 + sn, none⟩ = some (.slice A ml capl) := by have := (W3.bm.side hsh.out).1; rw [eV.out] at this; exact this
        have O3 : Only (wfoot b F V vs) w w3 := ((only_below B2.out).mono (fun _ _ e => e.elim)).trans (o3.mono (fun _ _ e => .inl e))
        have W3d : Wb B b a F V vs (endC c sn) w3.drew := W3.only (p := fun _ => False) ⟨rfl, rfl, rfl, Nat.le_refl _, fun _ _ _ => rfl⟩ (fun _ _ e => e)
        have hEq := Lib.hid (hEq0.out w3.drew W3d)
        have hAft := Lib.hid (hAft0.out w3.drew A ml capl W3d ⟨O3.os, O3.tape, O3.output, O3.size, O3.block⟩ eV.out)
        clear B2 hEq0 hAft0 W3d W3 O3 o3 hE
        go_upto_region 9 with (fail)
        go_cut [66] from 49 to 66 (fun cx wx => cx = .pointer (some ⟨b, 501 + sn, none⟩) ∧ Hid (AddMid B b a F V vs sn p 0 (clrL c.abs (sn : Int) p) w wx))
        case first =>
          refine wp_region_held_drew (S := (fun _ : World => True)) (by rfl) trivial (fun hHeld => ?_)
          obtain ⟨w35, ew5⟩ : ∃ W, w3.drew = W := ⟨_, rfl⟩
          rw [ew5]
          rw [ew5] at hEq hAft
          have hbr := build_row p
          have x5 : w35.cell? ⟨b, 501 + sn, none⟩ = some (.slice A ml capl) := by rw [← ew5]; exact x2
          refine wpAnyH_take (i := 0) (v := .pointer (some ⟨b, 0, none⟩)) rfl (by kernel_rfl) (by kernel_rfl) (by kernel_rfl) (fun _ _ _ h => h) (Or.inl ⟨by kernel_rfl, fun W hSw => ?_⟩) (by assumption) ?_
          · (try dsimp only at hSw)
            go_simp
          (try simp only [Act.put, List.setIfInBounds_toArray, List.set_cons_zero, List.set_cons_succ])
          refine wpAnyH_take (i := 1) (v := .int .i64 (sn : Int)) rfl (by kernel_rfl) (by kernel_rfl) (by kernel_rfl) (fun _ _ _ h => h) (Or.inl ⟨by kernel_rfl, fun W hSw => ?_⟩) (by assumption) ?_
          · (try dsimp only at hSw)
            go_simp
          (try simp only [Act.put, List.setIfInBounds_toArray, List.set_cons_zero, List.set_cons_succ])
          refine wpAnyH_take (i := 2) (v := .pointer (some ⟨b, 0, none⟩)) rfl (by kernel_rfl) (by kernel_rfl) (by kernel_rfl) (fun _ _ _ h => h) (Or.inl ⟨by kernel_rfl, fun W hSw => ?_⟩) (by assumption) ?_
          · (try dsimp only at hSw)
            go_simp
          (try simp only [Act.put, List.setIfInBounds_toArray, List.set_cons_zero, List.set_cons_succ])
          refine wpAnyH_take (i := 3) (v := .int .i64 (sn : Int)) rfl (by kernel_rfl) (by kernel_rfl) (by kernel_rfl) (fun _ _ _ h => h) (Or.inl ⟨by kernel_rfl, fun W hSw => ?_⟩) (by assumption) ?_
          · (try dsimp only at hSw)
            go_simp
          (try simp only [Act.put, List.setIfInBounds_toArray, List.set_cons_zero, List.set_cons_succ])
          refine wpAnyH_take (i := 4) (v := .pointer (some ⟨b, 0, none⟩)) rfl (by kernel_rfl) (by kernel_rfl) (by kernel_rfl) (fun _ _ _ h => h) (Or.inl ⟨by kernel_rfl, fun W hSw => ?_⟩) (by assumption) ?_
          · (try dsimp only at hSw)
            go_simp
          (try simp only [Act.put, List.setIfInBounds_toArray, List.set_cons_zero, List.set_cons_succ])
          refine wpAnyH_take (i := 5) (v := .pointer (some ⟨b, 501, none⟩)) rfl (by kernel_rfl) (by kernel_rfl) (by kernel_rfl) (fun _ _ _ h => h) (Or.inl ⟨by kernel_rfl, fun W hSw => ?_⟩) (by assumption) ?_
          · (try dsimp only at hSw)
            go_simp
          (try simp only [Act.put, List.setIfInBounds_toArray, List.set_cons_zero, List.set_cons_succ])
          refine wpAnyH_take (i := 6) (v := .pointer (some ⟨b, 501 + sn, none⟩)) rfl (by kernel_rfl) (by kernel_rfl) (by kernel_rfl) (fun _ _ _ h => h) (Or.inl ⟨by kernel_rfl, fun W hSw => ?_⟩) (by assumption) ?_
          · (try dsimp only at hSw)
            go_simp
          (try simp only [Act.put, List.setIfInBounds_toArray, List.set_cons_zero, List.set_cons_succ])
          refine wpAnyH_take (i := 8) (v := .int .i64 (0)) rfl (by kernel_rfl) (by kernel_rfl) (by kernel_rfl) (fun _ _ _ h => h) (Or.inl ⟨by kernel_rfl, fun W hSw => ?_⟩) (by assumption) ?_
          · (try dsimp only at hSw)
            go_simp
          (try simp only [Act.put, List.setIfInBounds_toArray, List.set_cons_zero, List.set_cons_succ])
          refine wpAnyH_take (i := 9) (v := .int .i64 p) rfl (by kernel_rfl) (by kernel_rfl) (by kernel_rfl) (fun _ _ _ h => h) (Or.inl ⟨by kernel_rfl, fun W hSw => ?_⟩) (by assumption) ?_
          · (try dsimp only at hSw)
            go_simp
          (try simp only [Act.put, List.setIfInBounds_toArray, List.set_cons_zero, List.set_cons_succ])
          refine wpAnyH_take (i := 10) (v := .pointer (some ⟨b, 0, none⟩)) rfl (by kernel_rfl) (by kernel_rfl) (by kernel_rfl) (fun _ _ _ h => h) (Or.inl ⟨by kernel_rfl, fun W hSw => ?_⟩) (by assumption) ?_
          · (try dsimp only at hSw)
            go_simp
          (try simp only [Act.put, List.setIfInBounds_toArray, List.set_cons_zero, List.set_cons_succ])
          refine wpAnyH_take (i := 15) (v := .pointer (some ⟨b, 0, none⟩)) rfl (by kernel_rfl) (by kernel_rfl) (by kernel_rfl) (fun _ _ _ h => h) (Or.inl ⟨by kernel_rfl, fun W hSw => ?_⟩) (by assumption) ?_
          · (try dsimp only at hSw)
            go_simp
          (try simp only [Act.put, List.setIfInBounds_toArray, List.set_cons_zero, List.set_cons_succ])
          refine wpAnyH_take (i := 16) (v := .pointer (some ⟨b, 501, none⟩)) rfl (by kernel_rfl) (by kernel_rfl) (by kernel_rfl) (fun _ _ _ h => h) (Or.inl ⟨by kernel_rfl, fun W hSw => ?_⟩) (by assumption) ?_
          · (try dsimp only at hSw)
            go_simp
          (try simp only [Act.put, List.setIfInBounds_toArray, List.set_cons_zero, List.set_cons_succ])
          refine wpAnyH_ready (rs := [7, 11]) (by kernel_rfl) (by simp) ?_
          refine AllReadyH.cons rfl (fun K hK => ?_) (AllReadyH.cons rfl (fun K hK => ?_) AllReadyH.nil)
          · go_simp
            refine hK.out _ _ trivial (fun hHeld => ?_)
            clear hK K
            (try simp only [Act.put, List.setIfInBounds_toArray, List.set_cons_zero, List.set_cons_succ])
            refine wpAnyH_ready (rs := [11]) (by kernel_rfl) (by simp) ?_
            refine AllReadyH.cons rfl (fun K hK => ?_) AllReadyH.nil
            go_simp
            refine hEq.out.mono ?_
            rintro e w6 ⟨q, F', vs', c2, S0, rfl, e1, e2, e3, e4, e5, -, e7⟩
            have x6 := e7 sn hsh.out
            rw [eV.out] at x6
            have P6 := Lib.hid (hAft.out w6 q F' vs' c2 S0 e1 e2 e3 e4 e5)
            replace e3 := Lib.hid e3
            clear e1 e2 e4 e5 e7
            go_wp2_with fail
            refine hK.out _ _ trivial (fun hHeld => ?_)
            clear hK K
            (try simp only [Act.put, List.setIfInBounds_toArray, List.set_cons_zero, List.set_cons_succ])
            refine wpAnyH_take (i := 12) (v := .agg #[.int .i64 p, .int .i64 (q : Int)]) rfl (by kernel_rfl) (by kernel_rfl) (by kernel_rfl) (fun _ _ _ h => h) (Or.inl ⟨by kernel_rfl, fun W hSw => ?_⟩) (by assumption) ?_
            · (try dsimp only at hSw)
              go_simp
            (try simp only [Act.put, List.setIfInBounds_toArray, List.set_cons_zero, List.set_cons_succ])
            refine wpAnyH_ready (rs := [13]) (by kernel_rfl) (by simp) ?_
            refine AllReadyH.cons rfl (fun K hK => ?_) AllReadyH.nil
            have P7 := Lib.hid (P6.out.1)
            obtain ⟨w7, ew7⟩ : ∃ X, w6.alloc (.cells #[.int .i64 p, .int .i64 (q : Int)] 86) = X := ⟨_, rfl⟩
            have x7 : w7.cell? ⟨b, 501 + sn, none⟩ = some (.slice A ml capl) := by rw [← ew7]; exact alloc_cell _ x6
            have HI7 := Lib.hid (P6.out.2 w7 ew7)
            obtain ⟨h7, eh7⟩ : ∃ x, w6.heap.size = x := ⟨_, rfl⟩
            rw [eh7] at HI7
            go_simp
            refine hK.out _ _ trivial (fun hHeld => ?_)
            clear hK K
            (try simp only [Act.put, List.setIfInBounds_toArray, List.set_cons_zero, List.set_cons_succ])
            refine wpAnyH_ready (rs := [14]) (by kernel_rfl) (by simp) ?_
            refine AllReadyH.cons rfl (fun K hK => ?_) AllReadyH.nil
            go_simp
            refine (HI7.out.1).mono ?_
            rintro e w8 ⟨v8, rfl, o8, on8, n8⟩
            obtain ⟨A8, c8, e8, -, -, -, -, -⟩ := o8.slice
            obtain ⟨l8, el8⟩ := HI7.out.2.1
            rw [el8] at e8
            subst e8
            replace el8 := Lib.hid el8
            have m8 := Lib.hid (HI7.out.2.2 w8 _ o8 on8 n8)
            have y8 := m8.out.1
            have f8 := m8.out.2.1
            go_wp2_with fail
            refine hK.out _ _ trivial (fun hHeld => ?_)
            clear hK K
            (try simp only [Act.put, List.setIfInBounds_toArray, List.set_cons_zero, List.set_cons_succ])
            refine wpAnyH_take (i := 17) (v := .pointer (some ⟨b, 501 + sn, none⟩)) rfl (by kernel_rfl) (by kernel_rfl) (by kernel_rfl) (fun _ _ _ h => h) (Or.inl ⟨by kernel_rfl, fun W hSw => ?_⟩) (by assumption) ?_
            · (try dsimp only at hSw)
              go_simp
            (try simp only [Act.put, List.setIfInBounds_toArray, List.set_cons_zero, List.set_cons_succ])
            refine wpAnyH_ready (rs := [18]) (by kernel_rfl) (by simp) ?_
            refine AllReadyH.cons rfl (fun K hK => ?_) AllReadyH.nil
            go_simp
            refine hK.out _ _ trivial (fun hHeld => ?_)
            clear hK K
            (try simp only [Act.put, List.setIfInBounds_toArray, List.set_cons_zero, List.set_cons_succ])
            refine wpAnyH_done (by kernel_rfl) ?_ _
            have M := Lib.hid m8.out.2.2
            obtain ⟨wx, ewx⟩ : ∃ X, w8.setCell ⟨b, 501 + sn, none⟩ (.slice A8 l8 c8) = X := ⟨_, rfl⟩
            rw [ewx] at M ⊢
            go_wp2_with fail
            go_meet
            exact ⟨rfl, M.out⟩
          · go_simp
            refine hEq.out.mono ?_
            rintro e w6 ⟨q, F', vs', c2, S0, rfl, e1, e2, e3, e4, e5, -, e7⟩
            have x6 := e7 sn hsh.out
            rw [eV.out] at x6
            have P6 := Lib.hid (hAft.out w6 q F' vs' c2 S0 e1 e2 e3 e4 e5)
            replace e3 := Lib.hid e3
            clear e1 e2 e4 e5 e7
            go_wp2_with fail
            refine hK.out _ _ trivial (fun hHeld => ?_)
            clear hK K
            (try simp only [Act.put, List.setIfInBounds_toArray, List.set_cons_zero, List.set_cons_succ])
            refine wpAnyH_take (i := 12) (v := .agg #[.int .i64 p, .int .i64 (q : Int)]) rfl (by kernel_rfl) (by kernel_rfl) (by kernel_rfl) (fun _ _ _ h => h) (Or.inl ⟨by kernel_rfl, fun W hSw => ?_⟩) (by assumption) ?_
            · (try dsimp only at hSw)
              go_simp
            (try simp only [Act.put, List.setIfInBounds_toArray, List.set_cons_zero, List.set_cons_succ])
            refine wpAnyH_ready (rs := [7, 13]) (by kernel_rfl) (by simp) ?_
            refine AllReadyH.cons rfl (fun K hK => ?_) (AllReadyH.cons rfl (fun K hK => ?_) AllReadyH.nil)
            · go_simp
              refine hK.out _ _ trivial (fun hHeld => ?_)
              clear hK K
              (try simp only [Act.put, List.setIfInBounds_toArray, List.set_cons_zero, List.set_cons_succ])
              refine wpAnyH_ready (rs := [13]) (by kernel_rfl) (by simp) ?_
              refine AllReadyH.cons rfl (fun K hK => ?_) AllReadyH.nil
              have P7 := Lib.hid (P6.out.1)
              obtain ⟨w7, ew7⟩ : ∃ X, w6.alloc (.cells #[.int .i64 p, .int .i64 (q : Int)] 86) = X := ⟨_, rfl⟩
              have x7 : w7.cell? ⟨b, 501 + sn, none⟩ = some (.slice A ml capl) := by rw [← ew7]; exact alloc_cell _ x6
              have HI7 := Lib.hid (P6.out.2 w7 ew7)
              obtain ⟨h7, eh7⟩ : ∃ x, w6.heap.size = x := ⟨_, rfl⟩
              rw [eh7] at HI7
              go_simp
              refine hK.out _ _ trivial (fun hHeld => ?_)
              clear hK K
              (try simp only [Act.put, List.setIfInBounds_toArray, List.set_cons_zero, List.set_cons_succ])
              refine wpAnyH_ready (rs := [14]) (by kernel_rfl) (by simp) ?_
              refine AllReadyH.cons rfl (fun K hK => ?_) AllReadyH.nil
              go_simp
              refine (HI7.out.1).mono ?_
              rintro e w8 ⟨v8, rfl, o8, on8, n8⟩
              obtain ⟨A8, c8, e8, -, -, -, -, -⟩ := o8.slice
              obtain ⟨l8, el8⟩ := HI7.out.2.1
              rw [el8] at e8
              subst e8
              replace el8 := Lib.hid el8
              have m8 := Lib.hid (HI7.out.2.2 w8 _ o8 on8 n8)
              have y8 := m8.out.1
              have f8 := m8.out.2.1
              go_wp2_with fail
              refine hK.out _ _ trivial (fun hHeld => ?_)
              clear hK K
              (try simp only [Act.put, List.setIfInBounds_toArray, List.set_cons_zero, List.set_cons_succ])
              refine wpAnyH_take (i := 17) (v := .pointer (some ⟨b, 501 + sn, none⟩)) rfl (by kernel_rfl) (by kernel_rfl) (by kernel_rfl) (fun _ _ _ h => h) (Or.inl ⟨by kernel_rfl, fun W hSw => ?_⟩) (by assumption) ?_
              · (try dsimp only at hSw)
                go_simp
              (try simp only [Act.put, List.setIfInBounds_toArray, List.set_cons_zero, List.set_cons_succ])
              refine wpAnyH_ready (rs := [18]) (by kernel_rfl) (by simp) ?_
              refine AllReadyH.cons rfl (fun K hK => ?_) AllReadyH.nil
              go_simp
              refine hK.out _ _ trivial (fun hHeld => ?_)
              clear hK K
              (try simp only [Act.put, List.setIfInBounds_toArray, List.set_cons_zero, List.set_cons_succ])
              refine wpAnyH_done (by kernel_rfl) ?_ _
              have M := Lib.hid m8.out.2.2
              obtain ⟨wx, ewx⟩ : ∃ X, w8.setCell ⟨b, 501 + sn, none⟩ (.slice A8 l8 c8) = X := ⟨_, rfl⟩
              rw [ewx] at M ⊢
              go_wp2_with fail
              go_meet
              exact ⟨rfl, M.out⟩
            · have P7 := Lib.hid (P6.out.1)
              obtain ⟨w7, ew7⟩ : ∃ X, w6.alloc (.cells #[.int .i64 p, .int .i64 (q : Int)] 86) = X := ⟨_, rfl⟩
              have x7 : w7.cell? ⟨b, 501 + sn, none⟩ = some (.slice A ml capl) := by rw [← ew7]; exact alloc_cell _ x6
              have HI7 := Lib.hid (P6.out.2 w7 ew7)
              obtain ⟨h7, eh7⟩ : ∃ x, w6.heap.size = x := ⟨_, rfl⟩
              rw [eh7] at HI7
              go_simp
              refine hK.out _ _ trivial (fun hHeld => ?_)
              clear hK K
              (try simp only [Act.put, List.setIfInBounds_toArray, List.set_cons_zero, List.set_cons_succ])
              refine wpAnyH_ready (rs := [7]) (by kernel_rfl) (by simp) ?_
              refine AllReadyH.cons rfl (fun K hK => ?_) AllReadyH.nil
              go_simp
              refine hK.out _ _ trivial (fun hHeld => ?_)
              clear hK K
              (try simp only [Act.put, List.setIfInBounds_toArray, List.set_cons_zero, List.set_cons_succ])
              refine wpAnyH_ready (rs := [14]) (by kernel_rfl) (by simp) ?_
              refine AllReadyH.cons rfl (fun K hK => ?_) AllReadyH.nil
              go_simp
              refine (HI7.out.1).mono ?_
              rintro e w8 ⟨v8, rfl, o8, on8, n8⟩
              obtain ⟨A8, c8, e8, -, -, -, -, -⟩ := o8.slice
              obtain ⟨l8, el8⟩ := HI7.out.2.1
              rw [el8] at e8
              subst e8
              replace el8 := Lib.hid el8
              have m8 := Lib.hid (HI7.out.2.2 w8 _ o8 on8 n8)
              have y8 := m8.out.1
              have f8 := m8.out.2.1
              go_wp2_with fail
              refine hK.out _ _ trivial (fun hHeld => ?_)
              clear hK K
              (try simp only [Act.put, List.setIfInBounds_toArray, List.set_cons_zero, List.set_cons_succ])
              refine wpAnyH_take (i := 17) (v := .pointer (some ⟨b, 501 + sn, none⟩)) rfl (by kernel_rfl) (by kernel_rfl) (by kernel_rfl) (fun _ _ _ h => h) (Or.inl ⟨by kernel_rfl, fun W hSw => ?_⟩) (by assumption) ?_
              · (try dsimp only at hSw)
                go_simp
              (try simp only [Act.put, List.setIfInBounds_toArray, List.set_cons_zero, List.set_cons_succ])
              refine wpAnyH_ready (rs := [18]) (by kernel_rfl) (by simp) ?_
              refine AllReadyH.cons rfl (fun K hK => ?_) AllReadyH.nil
              go_simp
              refine hK.out _ _ trivial (fun hHeld => ?_)
              clear hK K
              (try simp only [Act.put, List.setIfInBounds_toArray, List.set_cons_zero, List.set_cons_succ])
              refine wpAnyH_done (by kernel_rfl) ?_ _
              have M := Lib.hid m8.out.2.2
              obtain ⟨wx, ewx⟩ : ∃ X, w8.setCell ⟨b, 501 + sn, none⟩ (.slice A8 l8 c8) = X := ⟨_, rfl⟩
              rw [ewx] at M ⊢
              go_wp2_with fail
              go_meet
              exact ⟨rfl, M.out⟩
        case rest =>
          obtain ⟨rfl, M⟩ := hcut
          clear hEq hAft x2
          go_wp2_with fail
          obtain ⟨F', V', vs', c', X, q, Y, g, nn, cap, m1, m2, m3, m4, m5, mQ, m6, m7, y0, y1, y2, y3, y4, y5, y6, y7⟩ := M.out.cells hsh.out
          have mlen : c'.abs.length < 250 := by rw [m5]; exact clrL_len _ _ _ ▸ hlen.out
          obtain ⟨m, em, hm⟩ := free_slot m2 mlen
          have hm250 : m < 250 := by rw [← m2.room]; exact (List.getElem?_eq_some_iff.1 hm).1
          have hqQ := (m2.apart m3).lt
          have eP : pushO c'.st (q : Int) i n true = ((m : Int), 0, c'.st.pushed q m (lq c'.st q) ⟨m, i, n, true⟩) := by
            unfold pushO
            rw [if_neg (by omega), if_neg (by omega), if_neg (by omega), em, Int.toNat_natCast, Int.toNat_natCast]; rfl
          have HPu := Push_any B a F' c'.st (q : Int) i n true wc.drew (Lib.hid (m1.ar.below ⟨rfl, rfl, rfl, Nat.le_refl _, fun _ _ => rfl⟩)) (by omega) hi (by unfold I64; omega)
          rw [eP] at HPu
          simp only at HPu
          replace HPu := Lib.hid HPu
          have fin := Lib.hid (add_plain (n := n) m2 hsh.out m3 m5 hno.out hm n1 n2 hi.out)
          rw [htop.out] at fin
          have hw0 : (fun W : World => W.cell? ⟨b, 0, none⟩ = some (.pointer (some ⟨a, 0, none⟩)) ∧ W.cell? ⟨b, 501 + sn, none⟩ = some (.slice (some ⟨g, 0, none⟩) nn cap) ∧ W.cell? ⟨g, 0 * 2 + 1, none⟩ = some (.int .i64 (q : Int))) wc.drew := ⟨y0, y1, y3⟩
          have LF : Hid (∀ Y, Only F' wc.drew Y → (fun W : World => W.cell? ⟨b, 0, none⟩ = some (.pointer (some ⟨a, 0, none⟩)) ∧ W.cell? ⟨b, 501 + sn, none⟩ = some (.slice (some ⟨g, 0, none⟩) nn cap) ∧ W.cell? ⟨g, 0 * 2 + 1, none⟩ = some (.int .i64 (q : Int))) Y) := Lib.hid (fun Y o =>
            ⟨(World.cell?_of_block (a := ⟨b, 0, none⟩) (o.block b y6 y4)).trans y0, (World.cell?_of_block (a := ⟨b, 501 + sn, none⟩) (o.block b y6 y4)).trans y1, (World.cell?_of_block (a := ⟨g, 0 * 2 + 1, none⟩) (o.block g y7 y5)).trans y3⟩)
          obtain ⟨yT, hyT⟩ : ∃ y, c'.T[m]? = some y := ⟨_, List.getElem?_eq_getElem (by rw [m2.tl]; exact hm250)⟩
          have bmF : Hid (∀ Y, Only F' wc.drew Y → Bm b a V' vs' c'.R c'.T c'.S Y) := Lib.hid (fun Y o => m1.bm.only ⟨o.os, o.tape, o.output, o.size, o.block⟩ (fun j hj e => m1.far j e hj))
          have hm250i : (m : Int) < 250 := by omega
          have lows : Hid (∀ wE, AR B a F' (c'.st.pushed q m (lq c'.st q) ⟨m, i, n, true⟩) wE → Bm b a V' vs' c'.R (c'.T.set m ((sn : Int), p)) c'.S wE → Only (wfoot b F' V' vs') wc wE → AddPost B b a F V vs (0, insO c.abs i (sn : Int) p n) w (.returned (.int .i64 0)) wE) := Lib.hid (fun wE ha hb ho =>
            ⟨F', V', vs', _, rfl, ⟨ha, hb, m1.far, m1.lo⟩, fin.out.1, fin.out.2, by show (c'.st.Q.set q _).length ≤ 250; rw [List.length_set]; exact mQ, m6.step ho (fun j hj e => (m7 j e).resolve_right (by omega)), m7⟩)
          have hbs := build_seat (sn : Int) p
          have hbfF : Hid (F' b → False) := Lib.hid y4
          replace hyT := Lib.hid hyT
          clear m1 m2 m3 m4 m5 mQ m6 m7 y0 y1 y3 y4 y5 y6 y7 mlen em hm hqQ eP fin hm250
          go_region_held3 (fun W : World => W.cell? ⟨b, 0, none⟩ = some (.pointer (some ⟨a, 0, none⟩)) ∧ W.cell? ⟨b, 501 + sn, none⟩ = some (.slice (some ⟨g, 0, none⟩) nn cap) ∧ W.cell? ⟨g, 0 * 2 + 1, none⟩ = some (.int .i64 (q : Int))) (first | with_reducible assumption | with_reducible exact hw0 | with_reducible exact z5) ((go_at_call 40; refine HPu.out.mono ?_; rintro e w5 ⟨rfl, a5, o5⟩; have z5 := LF.out w5 o5; replace a5 := Lib.hid a5; replace o5 := Lib.hid o5))
          have b5 := bmF.out w5 o5.out
          obtain ⟨t0, t1, t2, t3⟩ := b5.seat hyT.out
          have bset := Lib.hid (b5.setSeat (j := m) (x := ((sn : Int), p)) (by omega))
          have oset : Hid (Only (fun j => j = b) w5 ((w5.setCell ⟨b, 1 + m * 2, none⟩ (.int .i64 (sn : Int))).setCell ⟨b, 1 + m * 2 + 1, none⟩ (.int .i64 p))) := Lib.hid ((set_only w5 b _ _).trans (set_only _ b _ _))
          have oW : Hid (Only F' wc w5) := Lib.hid ⟨o5.out.os, o5.out.tape, o5.out.output, o5.out.size, o5.out.block⟩
          clear z5 hw0 LF b5 HPu
          go_wp2_with fail
          go_ret
          exact lows.out _ (a5.out.only oset.out (fun j hj e => hbfF.out (e ▸ hj))) bset.out ((oW.out.mono (fun j _ e => .inl e)).trans (oset.out.mono (fun j _ e => .inr (.inl e))))
      · have dk : ((k : Int) == 0) = false := by simpa using hk0
        have dk2 : ¬ (k : Int) = 0 := by omega
        have htop1 : topB c.abs (sn : Int) p = false := by rw [htop]; simp [hk0]
        have hcl : c.abs = clrL c.abs (sn : Int) p := by unfold clrL; rw [if_neg (by rw [htop1]; decide)]
        have hEq0 : Hid (∀ wy, Below w.heap.size w wy → Calls Try.prog 39 #[.pointer (some ⟨b, 0, none⟩)] wy (EqPost B b a F V vs c wy)) := Lib.hid (fun wy h => EmptyQ_any B b a F V vs c wy (Lib.hid (hW.out.below h)) (by omega) (Lib.hid hSq))
        have hAft0 : Hid (∀ wy A ml capl, Below w.heap.size w wy → V sn = .slice A ml capl → ∀ (w6 : World) (q : Nat) (F' : Nat → Prop) (vs' : Value) (c2 : Cs) (S0 : List Nat), (c2 = c ∨ c2 = openC c ∧ c.S = []) → c2.S = S0 ++ [q] → Wb B b a F' V vs' { c2 with S := S0 } w6 → Only (wfoot b F V vs) wy w6 → (∀ k, wfoot b F' V vs' k → wfoot b F V vs k ∨ wy.heap.size ≤ k) → _) := Lib.hid (fun wy A ml capl h1 h3 => add_after hs (hW.out.below h1) hI.out hcl ef ek hp.out hQ hlen ((only_below h1).mono (fun _ _ e => e.elim)) hB h3)
        replace htop := Lib.hid htop1
        replace hlen := Lib.hid hlen
        replace hno := Lib.hid hno
        clear hRl hQ hz hs' hs eadd hSq hB hcl htop1 ek ef
        go_enter Try.func14, Try.ntmps14
        go_wp2_with fail
        refine HR.out.mono ?_
        rintro e w1 ⟨rfl, b1⟩
        obtain ⟨A, ml, capl, eV, x1, HP1⟩ := HP.out w1 b1
        replace HP1 := Lib.hid HP1
        replace eV := Lib.hid eV
        go_wp2_with fail
        refine HP1.out.mono ?_
        rintro e w2 ⟨rfl, b2⟩
        have B2 : Below w.heap.size w w2 := b1.trans (b2.mono b1.size)
        have x2 : w2.cell? ⟨b, 501 + sn, none⟩ = some (.slice A ml capl) := by have := ((hW.out.below B2).bm.side hsh.out).1; rw [eV.out] at this; exact this
        have hEq := Lib.hid (hEq0.out w2.drew B2.drew)
        have hAft := Lib.hid (hAft0.out w2.drew A ml capl B2.drew eV.out)
        clear x1 b1 b2 HP1 B2 hEq0 hAft0
        go_upto_region 9 with (fail)
        go_cut [66] from 49 to 66 (fun cx wx => cx = .pointer (some ⟨b, 501 + sn, none⟩) ∧ Hid (AddMid B b a F V vs sn p k (clrL c.abs (sn : Int) p) w wx))
        case first =>
          refine wp_region_held_drew (S := (fun _ : World => True)) (by rfl) trivial (fun hHeld => ?_)
          obtain ⟨w25, ew5⟩ : ∃ W, w2.drew = W := ⟨_, rfl⟩
          rw [ew5]
          rw [ew5] at hEq hAft
          have hbr := build_row p
          have x5 : w25.cell? ⟨b, 501 + sn, none⟩ = some (.slice A ml capl) := by rw [← ew5]; exact x2
          refine wpAnyH_take (i := 0) (v := .pointer (some ⟨b, 0, none⟩)) rfl (by kernel_rfl) (by kernel_rfl) (by kernel_rfl) (fun _ _ _ h => h) (Or.inl ⟨by kernel_rfl, fun W hSw => ?_⟩) (by assumption) ?_
          · (try dsimp only at hSw)
            go_simp
          (try simp only [Act.put, List.setIfInBounds_toArray, List.set_cons_zero, List.set_cons_succ])
          refine wpAnyH_take (i := 1) (v := .int .i64 (sn : Int)) rfl (by kernel_rfl) (by kernel_rfl) (by kernel_rfl) (fun _ _ _ h => h) (Or.inl ⟨by kernel_rfl, fun W hSw => ?_⟩) (by assumption) ?_
          · (try dsimp only at hSw)
            go_simp
          (try simp only [Act.put, List.setIfInBounds_toArray, List.set_cons_zero, List.set_cons_succ])
          refine wpAnyH_take (i := 2) (v := .pointer (some ⟨b, 0, none⟩)) rfl (by kernel_rfl) (by kernel_rfl) (by kernel_rfl) (fun _ _ _ h => h) (Or.inl ⟨by kernel_rfl, fun W hSw => ?_⟩) (by assumption) ?_
          · (try dsimp only at hSw)
            go_simp
          (try simp only [Act.put, List.setIfInBounds_toArray, List.set_cons_zero, List.set_cons_succ])
          refine wpAnyH_take (i := 3) (v := .int .i64 (sn : Int)) rfl (by kernel_rfl) (by kernel_rfl) (by kernel_rfl) (fun _ _ _ h => h) (Or.inl ⟨by kernel_rfl, fun W hSw => ?_⟩) (by assumption) ?_
          · (try dsimp only at hSw)
            go_simp
          (try simp only [Act.put, List.setIfInBounds_toArray, List.set_cons_zero, List.set_cons_succ])
          refine wpAnyH_take (i := 4) (v := .pointer (some ⟨b, 0, none⟩)) rfl (by kernel_rfl) (by kernel_rfl) (by kernel_rfl) (fun _ _ _ h => h) (Or.inl ⟨by kernel_rfl, fun W hSw => ?_⟩) (by assumption) ?_
          · (try dsimp only at hSw)
            go_simp
          (try simp only [Act.put, List.setIfInBounds_toArray, List.set_cons_zero, List.set_cons_succ])
          refine wpAnyH_take (i := 5) (v := .pointer (some ⟨b, 501, none⟩)) rfl (by kernel_rfl) (by kernel_rfl) (by kernel_rfl) (fun _ _ _ h => h) (Or.inl ⟨by kernel_rfl, fun W hSw => ?_⟩) (by assumption) ?_
          · (try dsimp only at hSw)
            go_simp
          (try simp only [Act.put, List.setIfInBounds_toArray, List.set_cons_zero, List.set_cons_succ])
          refine wpAnyH_take (i := 6) (v := .pointer (some ⟨b, 501 + sn, none⟩)) rfl (by kernel_rfl) (by kernel_rfl) (by kernel_rfl) (fun _ _ _ h => h) (Or.inl ⟨by kernel_rfl, fun W hSw => ?_⟩) (by assumption) ?_
          · (try dsimp only at hSw)
            go_simp
          (try simp only [Act.put, List.setIfInBounds_toArray, List.set_cons_zero, List.set_cons_succ])
          refine wpAnyH_take (i := 8) (v := .int .i64 ((k : Int))) rfl (by kernel_rfl) (by kernel_rfl) (by kernel_rfl) (fun _ _ _ h => h) (Or.inl ⟨by kernel_rfl, fun W hSw => ?_⟩) (by assumption) ?_
          · (try dsimp only at hSw)
            go_simp
          (try simp only [Act.put, List.setIfInBounds_toArray, List.set_cons_zero, List.set_cons_succ])
          refine wpAnyH_take (i := 9) (v := .int .i64 p) rfl (by kernel_rfl) (by kernel_rfl) (by kernel_rfl) (fun _ _ _ h => h) (Or.inl ⟨by kernel_rfl, fun W hSw => ?_⟩) (by assumption) ?_
          · (try dsimp only at hSw)
            go_simp
          (try simp only [Act.put, List.setIfInBounds_toArray, List.set_cons_zero, List.set_cons_succ])
          refine wpAnyH_take (i := 10) (v := .pointer (some ⟨b, 0, none⟩)) rfl (by kernel_rfl) (by kernel_rfl) (by kernel_rfl) (fun _ _ _ h => h) (Or.inl ⟨by kernel_rfl, fun W hSw => ?_⟩) (by assumption) ?_
          · (try dsimp only at hSw)
            go_simp
          (try simp only [Act.put, List.setIfInBounds_toArray, List.set_cons_zero, List.set_cons_succ])
          refine wpAnyH_take (i := 15) (v := .pointer (some ⟨b, 0, none⟩)) rfl (by kernel_rfl) (by kernel_rfl) (by kernel_rfl) (fun _ _ _ h => h) (Or.inl ⟨by kernel_rfl, fun W hSw => ?_⟩) (by assumption) ?_
          · (try dsimp only at hSw)
            go_simp
          (try simp only [Act.put, List.setIfInBounds_toArray, List.set_cons_zero, List.set_cons_succ])
          refine wpAnyH_take (i := 16) (v := .pointer (some ⟨b, 501, none⟩)) rfl (by kernel_rfl) (by kernel_rfl) (by kernel_rfl) (fun _ _ _ h => h) (Or.inl ⟨by kernel_rfl, fun W hSw => ?_⟩) (by assumption) ?_
          · (try dsimp only at hSw)
            go_simp
          (try simp only [Act.put, List.setIfInBounds_toArray, List.set_cons_zero, List.set_cons_succ])
          refine wpAnyH_ready (rs := [7, 11]) (by kernel_rfl) (by simp) ?_
          refine AllReadyH.cons rfl (fun K hK => ?_) (AllReadyH.cons rfl (fun K hK => ?_) AllReadyH.nil)
          · go_simp
            refine hK.out _ _ trivial (fun hHeld => ?_)
            clear hK K
            (try simp only [Act.put, List.setIfInBounds_toArray, List.set_cons_zero, List.set_cons_succ])
            refine wpAnyH_ready (rs := [11]) (by kernel_rfl) (by simp) ?_
            refine AllReadyH.cons rfl (fun K hK => ?_) AllReadyH.nil
            go_simp
            refine hEq.out.mono ?_
            rintro e w6 ⟨q, F', vs', c2, S0, rfl, e1, e2, e3, e4, e5, -, e7⟩
            have x6 := e7 sn hsh.out
            rw [eV.out] at x6
            have P6 := Lib.hid (hAft.out w6 q F' vs' c2 S0 e1 e2 e3 e4 e5)
            replace e3 := Lib.hid e3
            clear e1 e2 e4 e5 e7
            go_wp2_with fail
            refine hK.out _ _ trivial (fun hHeld => ?_)
            clear hK K
            (try simp only [Act.put, List.setIfInBounds_toArray, List.set_cons_zero, List.set_cons_succ])
            refine wpAnyH_take (i := 12) (v := .agg #[.int .i64 p, .int .i64 (q : Int)]) rfl (by kernel_rfl) (by kernel_rfl) (by kernel_rfl) (fun _ _ _ h => h) (Or.inl ⟨by kernel_rfl, fun W hSw => ?_⟩) (by assumption) ?_
            · (try dsimp only at hSw)
              go_simp
            (try simp only [Act.put, List.setIfInBounds_toArray, List.set_cons_zero, List.set_cons_succ])
            refine wpAnyH_ready (rs := [13]) (by kernel_rfl) (by simp) ?_
            refine AllReadyH.cons rfl (fun K hK => ?_) AllReadyH.nil
            have P7 := Lib.hid (P6.out.1)
            obtain ⟨w7, ew7⟩ : ∃ X, w6.alloc (.cells #[.int .i64 p, .int .i64 (q : Int)] 86) = X := ⟨_, rfl⟩
            have x7 : w7.cell? ⟨b, 501 + sn, none⟩ = some (.slice A ml capl) := by rw [← ew7]; exact alloc_cell _ x6
            have HI7 := Lib.hid (P6.out.2 w7 ew7)
            obtain ⟨h7, eh7⟩ : ∃ x, w6.heap.size = x := ⟨_, rfl⟩
            rw [eh7] at HI7
            go_simp
            refine hK.out _ _ trivial (fun hHeld => ?_)
            clear hK K
            (try simp only [Act.put, List.setIfInBounds_toArray, List.set_cons_zero, List.set_cons_succ])
            refine wpAnyH_ready (rs := [14]) (by kernel_rfl) (by simp) ?_
            refine AllReadyH.cons rfl (fun K hK => ?_) AllReadyH.nil
            go_simp
            refine (HI7.out.1).mono ?_
            rintro e w8 ⟨v8, rfl, o8, on8, n8⟩
            obtain ⟨A8, c8, e8, -, -, -, -, -⟩ := o8.slice
            obtain ⟨l8, el8⟩ := HI7.out.2.1
            rw [el8] at e8
            subst e8
            replace el8 := Lib.hid el8
            have m8 := Lib.hid (HI7.out.2.2 w8 _ o8 on8 n8)
            have y8 := m8.out.1
            have f8 := m8.out.2.1
            go_wp2_with fail
            refine hK.out _ _ trivial (fun hHeld => ?_)
            clear hK K
            (try simp only [Act.put, List.setIfInBounds_toArray, List.set_cons_zero, List.set_cons_succ])
            refine wpAnyH_take (i := 17) (v := .pointer (some ⟨b, 501 + sn, none⟩)) rfl (by kernel_rfl) (by kernel_rfl) (by kernel_rfl) (fun _ _ _ h => h) (Or.inl ⟨by kernel_rfl, fun W hSw => ?_⟩) (by assumption) ?_
            · (try dsimp only at hSw)
              go_simp
            (try simp only [Act.put, List.setIfInBounds_toArray, List.set_cons_zero, List.set_cons_succ])
            refine wpAnyH_ready (rs := [18]) (by kernel_rfl) (by simp) ?_
            refine AllReadyH.cons rfl (fun K hK => ?_) AllReadyH.nil
            go_simp
            refine hK.out _ _ trivial (fun hHeld => ?_)
            clear hK K
            (try simp only [Act.put, List.setIfInBounds_toArray, List.set_cons_zero, List.set_cons_succ])
            refine wpAnyH_done (by kernel_rfl) ?_ _
            have M := Lib.hid m8.out.2.2
            obtain ⟨wx, ewx⟩ : ∃ X, w8.setCell ⟨b, 501 + sn, none⟩ (.slice A8 l8 c8) = X := ⟨_, rfl⟩
            rw [ewx] at M ⊢
            go_wp2_with fail
            go_meet
            exact ⟨rfl, M.out⟩
          · go_simp
            refine hEq.out.mono ?_
            rintro e w6 ⟨q, F', vs', c2, S0, rfl, e1, e2, e3, e4, e5, -, e7⟩
            have x6 := e7 sn hsh.out
            rw [eV.out] at x6
            have P6 := Lib.hid (hAft.out w6 q F' vs' c2 S0 e1 e2 e3 e4 e5)
            replace e3 := Lib.hid e3
            clear e1 e2 e4 e5 e7
            go_wp2_with fail
            refine hK.out _ _ trivial (fun hHeld => ?_)
            clear hK K
            (try simp only [Act.put, List.setIfInBounds_toArray, List.set_cons_zero, List.set_cons_succ])
            refine wpAnyH_take (i := 12) (v := .agg #[.int .i64 p, .int .i64 (q : Int)]) rfl (by kernel_rfl) (by kernel_rfl) (by kernel_rfl) (fun _ _ _ h => h) (Or.inl ⟨by kernel_rfl, fun W hSw => ?_⟩) (by assumption) ?_
            · (try dsimp only at hSw)
              go_simp
            (try simp only [Act.put, List.setIfInBounds_toArray, List.set_cons_zero, List.set_cons_succ])
            refine wpAnyH_ready (rs := [7, 13]) (by kernel_rfl) (by simp) ?_
            refine AllReadyH.cons rfl (fun K hK => ?_) (AllReadyH.cons rfl (fun K hK => ?_) AllReadyH.nil)
            · go_simp
              refine hK.out _ _ trivial (fun hHeld => ?_)
              clear hK K
              (try simp only [Act.put, List.setIfInBounds_toArray, List.set_cons_zero, List.set_cons_succ])
              refine wpAnyH_ready (rs := [13]) (by kernel_rfl) (by simp) ?_
              refine AllReadyH.cons rfl (fun K hK => ?_) AllReadyH.nil
              have P7 := Lib.hid (P6.out.1)
              obtain ⟨w7, ew7⟩ : ∃ X, w6.alloc (.cells #[.int .i64 p, .int .i64 (q : Int)] 86) = X := ⟨_, rfl⟩
              have x7 : w7.cell? ⟨b, 501 + sn, none⟩ = some (.slice A ml capl) := by rw [← ew7]; exact alloc_cell _ x6
              have HI7 := Lib.hid (P6.out.2 w7 ew7)
              obtain ⟨h7, eh7⟩ : ∃ x, w6.heap.size = x := ⟨_, rfl⟩
              rw [eh7] at HI7
              go_simp
              refine hK.out _ _ trivial (fun hHeld => ?_)
              clear hK K
              (try simp only [Act.put, List.setIfInBounds_toArray, List.set_cons_zero, List.set_cons_succ])
              refine wpAnyH_ready (rs := [14]) (by kernel_rfl) (by simp) ?_
              refine AllReadyH.cons rfl (fun K hK => ?_) AllReadyH.nil
              go_simp
              refine (HI7.out.1).mono ?_
              rintro e w8 ⟨v8, rfl, o8, on8, n8⟩
              obtain ⟨A8, c8, e8, -, -, -, -, -⟩ := o8.slice
              obtain ⟨l8, el8⟩ := HI7.out.2.1
              rw [el8] at e8
              subst e8
              replace el8 := Lib.hid el8
              have m8 := Lib.hid (HI7.out.2.2 w8 _ o8 on8 n8)
              have y8 := m8.out.1
              have f8 := m8.out.2.1
              go_wp2_with fail
              refine hK.out _ _ trivial (fun hHeld => ?_)
              clear hK K
              (try simp only [Act.put, List.setIfInBounds_toArray, List.set_cons_zero, List.set_cons_succ])
              refine wpAnyH_take (i := 17) (v := .pointer (some ⟨b, 501 + sn, none⟩)) rfl (by kernel_rfl) (by kernel_rfl) (by kernel_rfl) (fun _ _ _ h => h) (Or.inl ⟨by kernel_rfl, fun W hSw => ?_⟩) (by assumption) ?_
              · (try dsimp only at hSw)
                go_simp
              (try simp only [Act.put, List.setIfInBounds_toArray, List.set_cons_zero, List.set_cons_succ])
              refine wpAnyH_ready (rs := [18]) (by kernel_rfl) (by simp) ?_
              refine AllReadyH.cons rfl (fun K hK => ?_) AllReadyH.nil
              go_simp
              refine hK.out _ _ trivial (fun hHeld => ?_)
              clear hK K
              (try simp only [Act.put, List.setIfInBounds_toArray, List.set_cons_zero, List.set_cons_succ])
              refine wpAnyH_done (by kernel_rfl) ?_ _
              have M := Lib.hid m8.out.2.2
              obtain ⟨wx, ewx⟩ : ∃ X, w8.setCell ⟨b, 501 + sn, none⟩ (.slice A8 l8 c8) = X := ⟨_, rfl⟩
              rw [ewx] at M ⊢
              go_wp2_with fail
              go_meet
              exact ⟨rfl, M.out⟩
            · have P7 := Lib.hid (P6.out.1)
              obtain ⟨w7, ew7⟩ : ∃ X, w6.alloc (.cells #[.int .i64 p, .int .i64 (q : Int)] 86) = X := ⟨_, rfl⟩
              have x7 : w7.cell? ⟨b, 501 + sn, none⟩ = some (.slice A ml capl) := by rw [← ew7]; exact alloc_cell _ x6
              have HI7 := Lib.hid (P6.out.2 w7 ew7)
              obtain ⟨h7, eh7⟩ : ∃ x, w6.heap.size = x := ⟨_, rfl⟩
              rw [eh7] at HI7
              go_simp
              refine hK.out _ _ trivial (fun hHeld => ?_)
              clear hK K
              (try simp only [Act.put, List.setIfInBounds_toArray, List.set_cons_zero, List.set_cons_succ])
              refine wpAnyH_ready (rs := [7]) (by kernel_rfl) (by simp) ?_
              refine AllReadyH.cons rfl (fun K hK => ?_) AllReadyH.nil
              go_simp
              refine hK.out _ _ trivial (fun hHeld => ?_)
              clear hK K
              (try simp only [Act.put, List.setIfInBounds_toArray, List.set_cons_zero, List.set_cons_succ])
              refine wpAnyH_ready (rs := [14]) (by kernel_rfl) (by simp) ?_
              refine AllReadyH.cons rfl (fun K hK => ?_) AllReadyH.nil
              go_simp
              refine (HI7.out.1).mono ?_
              rintro e w8 ⟨v8, rfl, o8, on8, n8⟩
              obtain ⟨A8, c8, e8, -, -, -, -, -⟩ := o8.slice
              obtain ⟨l8, el8⟩ := HI7.out.2.1
              rw [el8] at e8
              subst e8
              replace el8 := Lib.hid el8
              have m8 := Lib.hid (HI7.out.2.2 w8 _ o8 on8 n8)
              have y8 := m8.out.1
              have f8 := m8.out.2.1
              go_wp2_with fail
              refine hK.out _ _ trivial (fun hHeld => ?_)
              clear hK K
              (try simp only [Act.put, List.setIfInBounds_toArray, List.set_cons_zero, List.set_cons_succ])
              refine wpAnyH_take (i := 17) (v := .pointer (some ⟨b, 501 + sn, none⟩)) rfl (by kernel_rfl) (by kernel_rfl) (by kernel_rfl) (fun _ _ _ h => h) (Or.inl ⟨by kernel_rfl, fun W hSw => ?_⟩) (by assumption) ?_
              · (try dsimp only at hSw)
                go_simp
              (try simp only [Act.put, List.setIfInBounds_toArray, List.set_cons_zero, List.set_cons_succ])
              refine wpAnyH_ready (rs := [18]) (by kernel_rfl) (by simp) ?_
              refine AllReadyH.cons rfl (fun K hK => ?_) AllReadyH.nil
              go_simp
              refine hK.out _ _ trivial (fun hHeld => ?_)
              clear hK K
              (try simp only [Act.put, List.setIfInBounds_toArray, List.set_cons_zero, List.set_cons_succ])
              refine wpAnyH_done (by kernel_rfl) ?_ _
              have M := Lib.hid m8.out.2.2
              obtain ⟨wx, ewx⟩ : ∃ X, w8.setCell ⟨b, 501 + sn, none⟩ (.slice A8 l8 c8) = X := ⟨_, rfl⟩
              rw [ewx] at M ⊢
              go_wp2_with fail
              go_meet
              exact ⟨rfl, M.out⟩
        case rest =>
          obtain ⟨rfl, M⟩ := hcut
          clear hEq hAft x2
          go_wp2_with fail
          obtain ⟨F', V', vs', c', X, q, Y, g, nn, cap, m1, m2, m3, m4, m5, mQ, m6, m7, y0, y1, y2, y3, y4, y5, y6, y7⟩ := M.out.cells hsh.out
          have mlen : c'.abs.length < 250 := by rw [m5]; exact clrL_len _ _ _ ▸ hlen.out
          obtain ⟨m, em, hm⟩ := free_slot m2 mlen
          have hm250 : m < 250 := by rw [← m2.room]; exact (List.getElem?_eq_some_iff.1 hm).1
          have hqQ := (m2.apart m3).lt
          have eP : pushO c'.st (q : Int) i n false = ((m : Int), 0, c'.st.pushed q m (lq c'.st q) ⟨m, i, n, false⟩) := by
            unfold pushO
            rw [if_neg (by omega), if_neg (by omega), if_neg (by omega), em, Int.toNat_natCast, Int.toNat_natCast]; rfl
          have HPu := Push_any B a F' c'.st (q : Int) i n false wc.drew (Lib.hid (m1.ar.below ⟨rfl, rfl, rfl, Nat.le_refl _, fun _ _ => rfl⟩)) (by omega) hi (by unfold I64; omega)
          rw [eP] at HPu
          simp only at HPu
          replace HPu := Lib.hid HPu
          have fin := Lib.hid (add_plain (n := n) m2 hsh.out m3 m5 hno.out hm n1 n2 hi.out)
          rw [htop.out] at fin
          have hw0 : (fun W : World => W.cell? ⟨b, 0, none⟩ = some (.pointer (some ⟨a, 0, none⟩)) ∧ W.cell? ⟨b, 501 + sn, none⟩ = some (.slice (some ⟨g, 0, none⟩) nn cap) ∧ W.cell? ⟨g, k * 2 + 1, none⟩ = some (.int .i64 (q : Int))) wc.drew := ⟨y0, y1, y3⟩
          have LF : Hid (∀ Y, Only F' wc.drew Y → (fun W : World => W.cell? ⟨b, 0, none⟩ = some (.pointer (some ⟨a, 0, none⟩)) ∧ W.cell? ⟨b, 501 + sn, none⟩ = some (.slice (some ⟨g, 0, none⟩) nn cap) ∧ W.cell? ⟨g, k * 2 + 1, none⟩ = some (.int .i64 (q : Int))) Y) := Lib.hid (fun Y o =>
            ⟨(World.cell?_of_block (a := ⟨b, 0, none⟩) (o.block b y6 y4)).trans y0, (World.cell?_of_block (a := ⟨b, 501 + sn, none⟩) (o.block b y6 y4)).trans y1, (World.cell?_of_block (a := ⟨g, k * 2 + 1, none⟩) (o.block g y7 y5)).trans y3⟩)
          obtain ⟨yT, hyT⟩ : ∃ y, c'.T[m]? = some y := ⟨_, List.getElem?_eq_getElem (by rw [m2.tl]; exact hm250)⟩
          have bmF : Hid (∀ Y, Only F' wc.drew Y → Bm b a V' vs' c'.R c'.T c'.S Y) := Lib.hid (fun Y o => m1.bm.only ⟨o.os, o.tape, o.output, o.size, o.block⟩ (fun j hj e => m1.far j e hj))
          have hm250i : (m : Int) < 250 := by omega
          have lows : Hid (∀ wE, AR B a F' (c'.st.pushed q m (lq c'.st q) ⟨m, i, n, false⟩) wE → Bm b a V' vs' c'.R (c'.T.set m ((sn : Int), p)) c'.S wE → Only (wfoot b F' V' vs') wc wE → AddPost B b a F V vs (0, insO c.abs i (sn : Int) p n) w (.returned (.int .i64 0)) wE) := Lib.hid (fun wE ha hb ho =>
            ⟨F', V', vs', _, rfl, ⟨ha, hb, m1.far, m1.lo⟩, fin.out.1, fin.out.2, by show (c'.st.Q.set q _).length ≤ 250; rw [List.length_set]; exact mQ, m6.step ho (fun j hj e => (m7 j e).resolve_right (by omega)), m7⟩)
          have hbs := build_seat (sn : Int) p
          have hbfF : Hid (F' b → False) := Lib.hid y4
          replace hyT := Lib.hid hyT
          clear m1 m2 m3 m4 m5 mQ m6 m7 y0 y1 y3 y4 y5 y6 y7 mlen em hm hqQ eP fin hm250
          go_region_held3 (fun W : World => W.cell? ⟨b, 0, none⟩ = some (.pointer (some ⟨a, 0, none⟩)) ∧ W.cell? ⟨b, 501 + sn, none⟩ = some (.slice (some ⟨g, 0, none⟩) nn cap) ∧ W.cell? ⟨g, k * 2 + 1, none⟩ = some (.int .i64 (q : Int))) (first | with_reducible assumption | with_reducible exact hw0 | with_reducible exact z5) ((go_at_call 40; refine HPu.out.mono ?_; rintro e w5 ⟨rfl, a5, o5⟩; have z5 := LF.out w5 o5; replace a5 := Lib.hid a5; replace o5 := Lib.hid o5))
          have b5 := bmF.out w5 o5.out
          obtain ⟨t0, t1, t2, t3⟩ := b5.seat hyT.out
          have bset := Lib.hid (b5.setSeat (j := m) (x := ((sn : Int), p)) (by omega))
          have oset : Hid (Only (fun j => j = b) w5 ((w5.setCell ⟨b, 1 + m * 2, none⟩ (.int .i64 (sn : Int))).setCell ⟨b, 1 + m * 2 + 1, none⟩ (.int .i64 p))) := Lib.hid ((set_only w5 b _ _).trans (set_only _ b _ _))
          have oW : Hid (Only F' wc w5) := Lib.hid ⟨o5.out.os, o5.out.tape, o5.out.output, o5.out.size, o5.out.block⟩
          clear z5 hw0 LF b5 HPu
          go_wp2_with fail
          go_ret
          exact lows.out _ (a5.out.only oset.out (fun j hj e => hbfF.out (e ▸ hj))) bset.out ((oW.out.mono (fun j _ e => .inl e)).trans (oset.out.mono (fun j _ e => .inr (.inl e))))
  · rw [if_neg hz] at eadd
    rw [eadd]
    obtain ⟨R, eR⟩ : ∃ R, refO c.abs i s n = R := ⟨_, rfl⟩
    rw [eR] at HR hz ⊢
    have d1 : (R != 0) = true := by simpa using hz
    clear eR eadd
    go_enter Try.func14, Try.ntmps14
    go_wp2_with fail
    refine HR.out.mono ?_
    rintro e w1 ⟨rfl, b1⟩
    replace b1 := Lib.hid b1
    go_wp2_with fail
    go_ret
    exact ⟨F, V, vs, c, rfl, hW.out.below b1.out, hI.out, rfl, hQ, (only_below b1.out).mono (fun _ _ e => e.elim), fun k hk => .inl hk⟩
end Go.Proofs.Ytlknlicokacoiaa
