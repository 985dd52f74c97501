/-
  An arena and the document's, side by side; an ask; the law package's do.
-/
import Derived.Test.YtcfmnmknbebfnaaLvCalls
import Derived.Test.YtcfmnmknbebfnaaLvTake
import Derived.Test.YtcfmnmknbebfnaaRLvTake
import Derived.Test.YtcfmnmknbebfnaaRLvGet
namespace Go.Proofs.Ytcfmnmknbebfnaa
open Go.RowKit
set_option linter.unusedVariables false
set_option linter.unusedSimpArgs false

/-- Both arenas are in this state; they share no block. -/
structure Both (B c d : Nat) (F G : Nat → Prop) (st : St) (w : World) : Prop where
  a : AR B c F st w
  r : RA B d G st w
  far : ∀ k, F k → ¬ G k
theorem Both.below {B c d : Nat} {F G : Nat → Prop} {st : St} {w w' : World} (h : Both B c d F G st w) (hb : Below w.heap.size w w') : Both B c d F G st w' := ⟨h.a.below hb, h.r.below hb, h.far⟩
theorem Both.size {B c d : Nat} {F G : Nat → Prop} {st : St} {w : World} (h : Both B c d F G st w) : B ≤ w.heap.size := by
  obtain ⟨s, q, L, E, rfl, hA, hI, hB⟩ := h.a
  have h1 := hB c (.inl rfl)
  have h2 := hA.lt (k := c) (.inl rfl)
  omega
theorem AR.size {B c : Nat} {F : Nat → Prop} {st : St} {w : World} (h : AR B c F st w) : B ≤ w.heap.size := by
  obtain ⟨s, q, L, E, rfl, hA, hI, hB⟩ := h
  have h1 := hB c (.inl rfl)
  have h2 := hA.lt (k := c) (.inl rfl)
  omega
theorem only_below_of {B : Nat} {F : Nat → Prop} {w w' : World} (h : Only F w w') (hB : B ≤ w.heap.size) (hF : ∀ k, F k → B ≤ k) : Below B w w' := h.below hB (fun k hk e => by have := hF k e; omega)
/-- One of them has done a call. -/
theorem Both.left {B c d : Nat} {F F' G : Nat → Prop} {st st' : St} {w w' : World} (h : Both B c d F G st w) (ha : AR B c F' st' w') (ho : Only F w w') (hn : ∀ k, F' k → F k ∨ w.heap.size ≤ k) : RA B d G st w' ∧ (∀ k, F' k → ¬ G k) ∧ Below B w w' :=
  ⟨h.r.only ho (fun k hk e => h.far k e hk), fun k hk e => by
    rcases hn k hk with e2 | e2
    · exact h.far k e2 e
    · have := (h.r.lt e).2; omega, only_below_of ho h.size (fun k hk => (h.a.lt hk).1)⟩
theorem Both.right {B c d : Nat} {F G G' : Nat → Prop} {st st' : St} {w w' : World} (ha : AR B c F st w) (hr : RA B d G st' w) (hf : ∀ k, F k → ¬ G k) (h2 : RA B d G' st w') (ho : Only G w w') (hn : ∀ k, G' k → G k ∨ w.heap.size ≤ k) : Both B c d F G' st w' ∧ Below B w w' :=
  ⟨⟨ha.only ho (fun k hk e => hf k hk e), h2, fun k hk e => by
    rcases hn k e with e2 | e2
    · exact hf k hk e2
    · have := (ha.lt hk).2; omega⟩, only_below_of ho ha.size (fun k hk => (hr.lt hk).1)⟩
/-- One call, as the statements ask it. -/
structure Ask where
  k : Int
  q : Int
  s : Int
  i : Int
  n : Int
  t : Bool
def Ask.cells (x : Ask) : Array Value := #[.int .i64 x.k, .int .i64 x.q, .int .i64 x.s, .int .i64 x.i, .int .i64 x.n, .bool x.t]
def Ask.val (x : Ask) : Value := .agg x.cells
structure Ask.Ok (x : Ask) : Prop where
  k : I64 x.k
  q : I64 x.q
  s : I64 x.s
  i : I64 x.i
  n : I64 x.n
/-- What an ask makes of the document's arena. -/
def askO (st : St) (x : Ask) : St :=
  if x.k = 1 then st.opened else if x.k = 2 then (pushO st x.q x.i x.n x.t).2.2 else if x.k = 3 then (takeO st x.s x.n).2 else (topO st x.s x.t).2
theorem pushO_q (st : St) (q i n : Int) (t : Bool) : (pushO st q i n t).2.2.Q.length = st.Q.length ∧ (pushO st q i n t).2.2.U.length = st.U.length := by
  unfold pushO
  split
  · exact ⟨rfl, rfl⟩
  · split
    · exact ⟨rfl, rfl⟩
    · split
      · exact ⟨rfl, rfl⟩
      · simp [St.pushed]
theorem takeO_q (st : St) (s n : Int) : (takeO st s n).2.Q.length = st.Q.length ∧ (takeO st s n).2.U.length = st.U.length := by
  unfold takeO
  split
  · exact ⟨rfl, rfl⟩
  · split
    · exact ⟨rfl, rfl⟩
    · split <;> simp [St.gone, St.turned]
theorem topO_q (st : St) (s : Int) (t : Bool) : (topO st s t).2.Q.length = st.Q.length ∧ (topO st s t).2.U.length = st.U.length := by
  unfold topO
  split
  · exact ⟨rfl, rfl⟩
  · simp [St.turned]
theorem askO_q (st : St) (x : Ask) : (askO st x).Q.length ≤ st.Q.length + 1 ∧ (askO st x).U.length = st.U.length := by
  have h1 := pushO_q st x.q x.i x.n x.t
  have h2 := takeO_q st x.s x.n
  have h3 := topO_q st x.s x.t
  unfold askO
  split
  · simp [St.opened]
  · split
    · omega
    · split <;> omega
/-- Which blocks two arenas' calls turned, and which are theirs behind them. -/
structure Frame (F G F' G' : Nat → Prop) (w w' : World) : Prop where
  only : Only (fun k => F k ∨ G k) w w'
  new : ∀ k, F' k ∨ G' k → F k ∨ G k ∨ w.heap.size ≤ k
theorem frame_of {F G F1 G1 : Nat → Prop} {w W0 w1 w2 : World} (hb : Below w.heap.size w W0) (o1 : Only F W0 w1) (n1 : ∀ k, F1 k → F k ∨ W0.heap.size ≤ k) (o2 : Only G w1 w2) (n2 : ∀ k, G1 k → G k ∨ w1.heap.size ≤ k) : Frame F G F1 G1 w w2 := by
  have h0 : Only (fun k => F k ∨ G k) w W0 := (only_below hb).mono (fun _ _ e => e.elim)
  refine ⟨(h0.step o1 (fun i _ e => .inl e)).step o2 (fun i _ e => .inr e), ?_⟩
  have s0 := hb.size
  have s1 := o1.size
  rintro k (e | e)
  · rcases n1 k e with h | h
    · exact .inl h
    · exact .inr (.inr (by omega))
  · rcases n2 k e with h | h
    · exact .inr (.inl h)
    · exact .inr (.inr (by omega))
/-- Behind an ask both tell the same, and are in its state. -/
def Did (B c d : Nat) (F0 G0 : Nat → Prop) (st : St) (w : World) (e : Ending) (w' : World) : Prop := ∃ F G, e = .returned (.bool true) ∧ Both B c d F G st w' ∧ Below B w w' ∧ Frame F0 G0 F G w w'
theorem row6 {w : World} {g : Nat} {T : TypeId} {x0 x1 x2 x3 x4 x5 : Value} (h : w.heap[g]? = some (.cells #[x0, x1, x2, x3, x4, x5] T (0, 0))) :
    w.cell? ⟨g, 0, none⟩ = some x0 ∧ w.cell? ⟨g, 1, none⟩ = some x1 ∧ w.cell? ⟨g, 2, none⟩ = some x2 ∧ w.cell? ⟨g, 3, none⟩ = some x3 ∧ w.cell? ⟨g, 4, none⟩ = some x4 ∧ w.cell? ⟨g, 5, none⟩ = some x5 := by
  refine ⟨?_, ?_, ?_, ?_, ?_, ?_⟩ <;> (rw [Lib.cell_of_heap h]; rfl)
set_option maxRecDepth 100000 in
set_option maxHeartbeats 4000000 in
theorem Do_any (B c d : Nat) (F G : Nat → Prop) (st : St) (x : Ask) (w : World) (h0 : Hid (Both B c d F G st w)) (hQ : st.Q.length ≤ 100000) (hx : Hid x.Ok) :
    Calls Try.prog 10 #[.pointer (some ⟨c, 0, none⟩), .pointer (some ⟨d, 0, none⟩), x.val] w (Did B c d F G (askO st x) w) := by
  have hb0 : Below w.heap.size w (w.alloc (.cells x.cells 29)) := (Below.refl _ _).alloc (Nat.le_refl _) _
  obtain ⟨k, q, s, i, n, t⟩ := x
  obtain ⟨W0, eW0⟩ : ∃ W, w.alloc (.cells #[.int .i64 k, .int .i64 q, .int .i64 s, .int .i64 i, .int .i64 n, .bool t] 29) = W := ⟨_, rfl⟩
  obtain ⟨g, eg⟩ : ∃ g, w.heap.size = g := ⟨_, rfl⟩
  have hb : Below w.heap.size w W0 := by rw [← eW0]; exact hb0
  have h1 := Lib.hid (h0.out.below hb)
  have hg : W0.heap[g]? = some (.cells #[.int .i64 k, .int .i64 q, .int .i64 s, .int .i64 i, .int .i64 n, .bool t] 29 (0, 0)) := by rw [← eW0, ← eg]; exact heap_alloc_new w _
  have hbb := Lib.hid hb
  have hBW : Hid (Below B w W0) := Lib.hid (hb.mono h0.out.size)
  have hgF : Hid (∀ k, F k → k ≠ g) := Lib.hid (fun k hk e => by have := (h0.out.a.lt hk).2; omega)
  have hgGG : Hid (∀ k, G k → k ≠ g) := Lib.hid (fun k hk e => by have := (h0.out.r.lt hk).2; omega)
  have hgs : Hid (g < W0.heap.size) := Lib.hid (Array.getElem?_eq_some_iff.1 hg).1
  show Calls Try.prog _ #[_, _, .agg #[.int .i64 k, .int .i64 q, .int .i64 s, .int .i64 i, .int .i64 n, .bool t]] _ _
  obtain ⟨xk, xq, xs, xi, xn⟩ := hx.out
  simp only at xk xq xs xi xn
  clear hb hb0 h0 hx
  have z0 := row6 hg
  have hq2 : st.Q.length ≤ 1000000 := by omega
  have hgh := Lib.hid hg
  replace eW0 := Lib.hid eW0
  replace eg := Lib.hid eg
  replace xi := Lib.hid xi
  replace xs := Lib.hid xs
  replace xq := Lib.hid xq
  replace xk := Lib.hid xk
  have keep : Hid (∀ W : World, Only F W0 W → W.heap[g]? = some (.cells #[.int .i64 k, .int .i64 q, .int .i64 s, .int .i64 i, .int .i64 n, .bool t] 29 (0, 0))) := Lib.hid (fun W ho => (ho.block g hgs.out (fun e => hgF.out g e rfl)).trans hgh.out)
  clear hg
  obtain ⟨y0, y1, y2, y3, y4, y5⟩ := z0
  by_cases k1 : k = 1
  · subst k1
    have eS : Hid (askO st ⟨1, q, s, i, n, t⟩ = st.opened) := Lib.hid rfl
    obtain ⟨S, eSS⟩ : ∃ S, askO st ⟨1, q, s, i, n, t⟩ = S := ⟨_, rfl⟩
    rw [eSS] at eS ⊢
    clear eSS
    go_enter Try.func10, Try.ntmps10
    go_upto_region 1 with (fail)
    rw [eW0.out, eg.out]
    go_wp2_with fail
    refine (Open_any B c F st W0 (Lib.hid h1.out.a) hq2).mono ?_
    rintro e w1 ⟨F1, rfl, a1, o1, n1⟩
    obtain ⟨r1, f1, b1⟩ := h1.out.left a1 o1 n1
    replace b1 := Lib.hid (hBW.out.trans b1)
    replace a1 := Lib.hid a1
    replace r1 := Lib.hid r1
    replace f1 := Lib.hid f1
    replace o1 := Lib.hid o1
    replace n1 := Lib.hid n1
    go_wp2_with fail
    refine (ROpen_any B d G st w1 r1 hq2).mono ?_
    rintro e w2 ⟨G1, rfl, r2, o2, n2⟩
    obtain ⟨h2, b2⟩ := Both.right a1.out r1.out f1.out r2 o2 n2
    replace h2 := Lib.hid h2
    replace b2 := Lib.hid (b1.out.trans b2)
    have hfr := Lib.hid (frame_of hbb.out o1.out n1.out o2 n2)
    clear r2 o2 n2
    go_wp2_with fail
    go_ret
    rw [eS.out]
    exact ⟨F1, G1, rfl, h2.out, b2.out, hfr.out⟩
  · by_cases k2 : k = 2
    · subst k2
      have eS : Hid (askO st ⟨2, q, s, i, n, t⟩ = (pushO st q i n t).2.2) := Lib.hid rfl
      obtain ⟨S, eSS⟩ : ∃ S, askO st ⟨2, q, s, i, n, t⟩ = S := ⟨_, rfl⟩
      rw [eSS] at eS ⊢
      clear eSS
      have HP := Push_any B c F st q i n t W0 (Lib.hid h1.out.a) hq2 xi xn
      have HR := fun (W : World) (hr : RA B d G st W) => RPush_any B d G st q i n t W (Lib.hid hr) hq2 xi xn
      obtain ⟨⟨p1, p2, p3⟩, ep⟩ : ∃ p, pushO st q i n t = p := ⟨_, rfl⟩
      rw [ep] at HP HR eS
      simp only at HP HR eS
      replace HP := Lib.hid HP
      replace HR := Lib.hid HR
      clear ep k1
      go_enter Try.func10, Try.ntmps10
      go_upto_region 1 with (fail)
      rw [eW0.out, eg.out]
      go_wp2_with fail
      refine HP.out.mono ?_
      rintro e w1 ⟨rfl, a1, o1⟩
      have hg1 := keep.out w1 o1
      obtain ⟨r1, f1, b1⟩ := h1.out.left a1 o1 (fun k hk => .inl hk)
      replace b1 := Lib.hid (hBW.out.trans b1)
      replace a1 := Lib.hid a1
      replace r1 := Lib.hid r1
      replace f1 := Lib.hid f1
      replace o1 := Lib.hid o1
      clear y0 y1 y2 y3 y4 y5
      obtain ⟨y0, y1, y2, y3, y4, y5⟩ := row6 hg1
      clear hg1
      go_wp2_with fail
      refine (HR.out w1 r1.out).mono ?_
      rintro e w2 ⟨G1, rfl, r2, o2, n2⟩
      obtain ⟨h2, b2⟩ := Both.right a1.out r1.out f1.out r2 o2 n2
      replace h2 := Lib.hid h2
      replace b2 := Lib.hid (b1.out.trans b2)
      have hfr := Lib.hid (frame_of hbb.out o1.out (fun k hk => .inl hk) o2 n2)
      clear r2 o2 n2
      go_wp2_with fail
      go_ret
      rw [eS.out]
      exact ⟨F, G1, rfl, h2.out, b2.out, hfr.out⟩
    · have dk1 : (k == 1) = false := by simpa using k1
      have dk2 : (k == 2) = false := by simpa using k2
      have hgG : Hid (∀ k, G k → k ≠ g) := Lib.hid (fun k hk e => hgGG.out k hk e)
      have hgG : Hid (∀ k, G k → k ≠ g) := Lib.hid (fun k hk e => hgGG.out k hk e)
      by_cases k3 : k = 3
      · subst k3
        have eS : Hid (askO st ⟨3, q, s, i, n, t⟩ = (takeO st s n).2) := Lib.hid (by unfold askO; rfl)
        obtain ⟨S, eSS⟩ : ∃ S, askO st ⟨3, q, s, i, n, t⟩ = S := ⟨_, rfl⟩
        rw [eSS] at eS ⊢
        clear eSS
        clear k1 k2 dk1 dk2
        have HP := Take_any B c F st s n W0.drew (Lib.hid (h1.out.a.only (p := fun _ => False) ⟨rfl, rfl, rfl, Nat.le_refl _, fun _ _ _ => rfl⟩ (fun _ _ e => e))) hq2 xn
        have HR := fun (W : World) (hr : RA B d G st W) => RTake_any B d G st s n W (Lib.hid hr) hq2 xn
        obtain ⟨⟨p1, p3⟩, ep⟩ : ∃ p, takeO st s n = p := ⟨_, rfl⟩
        rw [ep] at HP HR eS
        simp only at HP HR eS
        replace HP := Lib.hid HP
        replace HR := Lib.hid HR
        clear ep
        have z0 : (fun W : World => W.cell? ⟨g, 2, none⟩ = some (.int .i64 s) ∧ W.cell? ⟨g, 4, none⟩ = some (.int .i64 n)) W0.drew := ⟨y2, y4⟩
        simp only at z0
        have L1 : Hid (∀ w1 : World, AR B c F p3 w1 → Only F W0.drew w1 → (fun W : World => W.cell? ⟨g, 2, none⟩ = some (.int .i64 s) ∧ W.cell? ⟨g, 4, none⟩ = some (.int .i64 n)) w1 ∧ RA B d G st w1 ∧ Below B w w1) := Lib.hid (fun w1 a1 o1 => by
          have o : Only F W0 w1 := ⟨o1.os, o1.tape, o1.output, o1.size, o1.block⟩
          obtain ⟨y0, y1, y2, y3, y4, y5⟩ := row6 (keep.out w1 o)
          obtain ⟨r1, -, b1⟩ := h1.out.left a1 o (fun k hk => .inl hk)
          exact ⟨⟨y2, y4⟩, r1, hBW.out.trans b1⟩)
        have L2 : Hid (∀ (w1 w2 : World) (G1 : Nat → Prop), AR B c F p3 w1 → Only F W0.drew w1 → RA B d G1 p3 w2 → Only G w1 w2 → (∀ k, G1 k → G k ∨ w1.heap.size ≤ k) → (fun W : World => W.cell? ⟨g, 2, none⟩ = some (.int .i64 s) ∧ W.cell? ⟨g, 4, none⟩ = some (.int .i64 n)) w2 ∧ Both B c d F G1 p3 w2 ∧ Below B w w2 ∧ Frame F G F G1 w w2) := Lib.hid (fun w1 w2 G1 a1 o1 r2 o2 n2 => by
          have o : Only F W0 w1 := ⟨o1.os, o1.tape, o1.output, o1.size, o1.block⟩
          have hg2 := (o2.block g (Nat.lt_of_lt_of_le hgs.out o.size) (fun e => hgG.out g e rfl)).trans (keep.out w1 o)
          obtain ⟨y0, y1, y2, y3, y4, y5⟩ := row6 hg2
          obtain ⟨r1, f1, b1⟩ := h1.out.left a1 o (fun k hk => .inl hk)
          obtain ⟨h2, b2⟩ := Both.right a1 r1 f1 r2 o2 n2
          exact ⟨⟨y2, y4⟩, h2, (hBW.out.trans b1).trans b2, frame_of hbb.out o (fun k hk => .inl hk) o2 n2⟩)
        go_enter Try.func10, Try.ntmps10
        go_upto_region 1 with (fail)
        rw [eW0.out, eg.out]
        go_upto_region 9 with (fail)
        go_region_held3 (fun W : World => W.cell? ⟨g, 2, none⟩ = some (.int .i64 s) ∧ W.cell? ⟨g, 4, none⟩ = some (.int .i64 n)) (first | with_reducible assumption | with_reducible exact z0 | with_reducible exact z1 | with_reducible exact z2) (first | (go_at_call 17; refine HP.out.mono ?_; rintro e w1 ⟨rfl, a1, o1⟩; obtain ⟨z1, r1, b1⟩ := L1.out w1 a1 o1; replace a1 := Lib.hid a1; replace o1 := Lib.hid o1; replace r1 := Lib.hid r1; replace b1 := Lib.hid b1) | (go_at_call 26; refine (HR.out _ r1.out).mono ?_; rintro e w2 ⟨G1, rfl, r2, o2, n2⟩; obtain ⟨z2, h2, b2, hfr⟩ := L2.out w1 w2 G1 a1.out o1.out r2 o2 n2; replace h2 := Lib.hid h2; replace b2 := Lib.hid b2; replace hfr := Lib.hid hfr))
        go_wp2_with fail
        go_ret
        rw [eS.out]
        exact ⟨F, G1, rfl, h2.out, b2.out, hfr.out⟩
      · have dk3 : (k == 3) = false := by simpa using k3
        have eS : Hid (askO st ⟨k, q, s, i, n, t⟩ = (topO st s t).2) := Lib.hid (by unfold askO; rw [if_neg k1, if_neg k2, if_neg k3])
        obtain ⟨S, eSS⟩ : ∃ S, askO st ⟨k, q, s, i, n, t⟩ = S := ⟨_, rfl⟩
        rw [eSS] at eS ⊢
        clear eSS
        have HP := Top_any B c F st s t W0.drew (Lib.hid (h1.out.a.only (p := fun _ => False) ⟨rfl, rfl, rfl, Nat.le_refl _, fun _ _ _ => rfl⟩ (fun _ _ e => e))) hq2
        have HR := fun (W : World) (hr : RA B d G st W) => RTop_any B d G st s t W (Lib.hid hr) hq2
        obtain ⟨⟨p1, p3⟩, ep⟩ : ∃ p, topO st s t = p := ⟨_, rfl⟩
        rw [ep] at HP HR eS
        simp only at HP HR eS
        replace HP := Lib.hid HP
        replace HR := Lib.hid HR
        clear ep
        have z0 : (fun W : World => W.cell? ⟨g, 2, none⟩ = some (.int .i64 s) ∧ W.cell? ⟨g, 5, none⟩ = some (.bool t)) W0.drew := ⟨y2, y5⟩
        simp only at z0
        have L1 : Hid (∀ w1 : World, AR B c F p3 w1 → Only F W0.drew w1 → (fun W : World => W.cell? ⟨g, 2, none⟩ = some (.int .i64 s) ∧ W.cell? ⟨g, 5, none⟩ = some (.bool t)) w1 ∧ RA B d G st w1 ∧ Below B w w1) := Lib.hid (fun w1 a1 o1 => by
          have o : Only F W0 w1 := ⟨o1.os, o1.tape, o1.output, o1.size, o1.block⟩
          obtain ⟨y0, y1, y2, y3, y4, y5⟩ := row6 (keep.out w1 o)
          obtain ⟨r1, -, b1⟩ := h1.out.left a1 o (fun k hk => .inl hk)
          exact ⟨⟨y2, y5⟩, r1, hBW.out.trans b1⟩)
        have L2 : Hid (∀ (w1 w2 : World) (G1 : Nat → Prop), AR B c F p3 w1 → Only F W0.drew w1 → RA B d G1 p3 w2 → Only G w1 w2 → (∀ k, G1 k → G k ∨ w1.heap.size ≤ k) → (fun W : World => W.cell? ⟨g, 2, none⟩ = some (.int .i64 s) ∧ W.cell? ⟨g, 5, none⟩ = some (.bool t)) w2 ∧ Both B c d F G1 p3 w2 ∧ Below B w w2 ∧ Frame F G F G1 w w2) := Lib.hid (fun w1 w2 G1 a1 o1 r2 o2 n2 => by
          have o : Only F W0 w1 := ⟨o1.os, o1.tape, o1.output, o1.size, o1.block⟩
          have hg2 := (o2.block g (Nat.lt_of_lt_of_le hgs.out o.size) (fun e => hgG.out g e rfl)).trans (keep.out w1 o)
          obtain ⟨y0, y1, y2, y3, y4, y5⟩ := row6 hg2
          obtain ⟨r1, f1, b1⟩ := h1.out.left a1 o (fun k hk => .inl hk)
          obtain ⟨h2, b2⟩ := Both.right a1 r1 f1 r2 o2 n2
          exact ⟨⟨y2, y5⟩, h2, (hBW.out.trans b1).trans b2, frame_of hbb.out o (fun k hk => .inl hk) o2 n2⟩)
        go_enter Try.func10, Try.ntmps10
        go_upto_region 1 with (fail)
        rw [eW0.out, eg.out]
        go_upto_region 10 with (fail)
        go_region_held3 (fun W : World => W.cell? ⟨g, 2, none⟩ = some (.int .i64 s) ∧ W.cell? ⟨g, 5, none⟩ = some (.bool t)) (first | with_reducible assumption | with_reducible exact z0 | with_reducible exact z1 | with_reducible exact z2) (first | (go_at_call 21; refine HP.out.mono ?_; rintro e w1 ⟨rfl, a1, o1⟩; obtain ⟨z1, r1, b1⟩ := L1.out w1 a1 o1; replace a1 := Lib.hid a1; replace o1 := Lib.hid o1; replace r1 := Lib.hid r1; replace b1 := Lib.hid b1) | (go_at_call 27; refine (HR.out _ r1.out).mono ?_; rintro e w2 ⟨rfl, r2, o2⟩; obtain ⟨z2, h2, b2, hfr⟩ := L2.out w1 w2 G a1.out o1.out r2 o2 (fun k hk => .inl hk); replace h2 := Lib.hid h2; replace b2 := Lib.hid b2; replace hfr := Lib.hid hfr))
        go_wp2_with fail
        go_ret
        rw [eS.out]
        exact ⟨F, G, rfl, h2.out, b2.out, hfr.out⟩
end Go.Proofs.Ytcfmnmknbebfnaa
