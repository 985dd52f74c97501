/-
  Contracts: readMonth and halves of package symbol.
-/
import Derived.Test.YtfhegnmfkmolbaaSymRead
namespace Go.Proofs.Ytfhegnmfkmolbaa
open Go.RowKit
set_option linter.unusedVariables false
set_option linter.unusedSimpArgs false

theorem heap_below {w w' : World} {k : Nat} {o : Obj} (hb : Below w.heap.size w w') (h : w.heap[k]? = some o) : w'.heap[k]? = some o := by
  have hlt : k < w.heap.size := (Array.getElem?_eq_some_iff.1 h).1
  rw [hb.block k hlt]; exact h
/-- What has been read behind k runes of three. -/
def ReadTo (a b c k pos mo ye : Nat) : Prop :=
  (k = 0 ∧ pos = 0 ∧ mo = 0 ∧ ye = 0) ∨ (k = 1 ∧ 0 < pos ∧ idx a = some mo ∧ ye = 0) ∨ (k = 2 ∧ 0 < pos ∧ idx a = some mo ∧ dig b = true ∧ ye = b - 48) ∨
    (k = 3 ∧ 0 < pos ∧ idx a = some mo ∧ dig b = true ∧ dig c = true ∧ ye = 10 * (b - 48) + (c - 48))

set_option maxRecDepth 100000 in
set_option maxHeartbeats 4000000 in
theorem ReadMonth_any (t : List UInt8) (a b c : Nat) (xa xb xc : List UInt8) (o : Option Nat) (w : World) (hR : runes t = [(a, xa), (b, xb), (c, xc)]) (ho : readO a b c = o) :
    Calls Try.prog 26 #[.string (str t)] w fun e w' => e = .returned (.tuple #[.int .i64 ((o.getD 0 : Nat) : Int), .bool o.isSome]) ∧ Below w.heap.size w w' := by
  have Ho := Lib.hid ho
  have HR := Lib.hid hR
  clear ho hR
  obtain ⟨g, eg⟩ : ∃ g, w.heap.size = g := ⟨_, rfl⟩
  go_enter Try.func26, Try.ntmps26
  go_wp2
  go_loopw [4, 5] (fun m y wr => ∃ k pos mo ye : Nat, m = .int .i64 mo ∧ y = .int .i64 ye ∧ mo ≤ 12 ∧ ye ≤ 99 ∧ Hid (At t k pos) ∧ Hid (ReadTo a b c k pos mo ye) ∧ wr.heap[g]? = some (.stringIter (str t) pos) ∧ Hid (Below g w wr)) (fun _ _ wr => t.length - wr.iterPos g)
  case atStart =>
    refine ⟨0, 0, 0, 0, rfl, rfl, by omega, by omega, Lib.hid (at_zero t), Lib.hid (.inl ⟨rfl, rfl, rfl, rfl⟩), ?_, Lib.hid ((Below.refl _ w).alloc (by omega) _)⟩
    have := World.iter_heap w (str t) 0
    simpa [eg] using this
  case round =>
    obtain ⟨k, pos, mo, ye, rfl, rfl, hmo, hye, hat, hrd, hit, hbel⟩ := hrel
    have hsz : g < wr.heap.size := (Array.getElem?_eq_some_iff.1 hit).1
    by_cases hp : pos < t.length
    · obtain ⟨r, d, _, hnx, hd, hpd, hkl, hg, ha2, hr⟩ := at_step hat.out hp
      have ha2 := Lib.hid ha2
      have hn := fun ty => hnx wr g ty hit
      clear hnx
      have hit2 := Lib.hid (Lib.iterAt_heap wr g (str t) pos (pos + d) hit)
      have hbel2 := Lib.hid (Lib.below_iterAt hbel.out (k := g) (by omega) (str t) (pos + d))
      obtain ⟨W, hW⟩ : ∃ W, wr.iterAt g (str t) (pos + d) = W := ⟨_, rfl⟩
      rw [hW] at hit2 hbel2 hn
      clear hW
      have hWz : g < W.heap.size := (Array.getElem?_eq_some_iff.1 hit2.out).1
      rw [HR.out] at hg hkl
      rcases hrd.out with ⟨rfl, rfl, rfl, rfl⟩ | ⟨rfl, hpp, hi, rfl⟩ | ⟨rfl, hpp, hi, hb, rfl⟩ | ⟨rfl, hpp, hi, hb, hc, rfl⟩
      · simp only [List.getElem?_cons_zero, Option.some.injEq, Prod.mk.injEq] at hg
        obtain ⟨rfl, _⟩ := hg
        cases hi : idx a with
        | none =>
          have hno := readO_idx (b := b) (c := c) hi
          rw [Ho.out] at hno
          subst hno
          have Hi := Lib.hid hi
          clear hi
          go_wp2_with (go_at_call 29; refine (MonthOf_any a none _ hr Hi.out).mono ?_; rintro e w' ⟨rfl, hbw⟩)
          go_ret2
          exact ⟨rfl, by rw [eg]; exact hbel2.out.trans (hbw.mono (by omega))⟩
        | some i =>
          have h12 := (idx_some hi).1
          have hrd2 := Lib.hid (show ReadTo a b c 1 (0 + d) i 0 from .inr (.inl ⟨rfl, by omega, hi, rfl⟩))
          have Hi := Lib.hid hi
          clear hi
          go_wp2_with (go_at_call 29; refine (MonthOf_any a (some i) _ hr Hi.out).mono ?_; rintro e w' ⟨rfl, hbw⟩)
          have hit3 := Lib.hid (heap_below hbw hit2.out)
          have hbel3 := Lib.hid (hbel2.out.trans (hbw.mono (by omega)))
          go_roundw
          case rel => exact ⟨1, 0 + d, i, 0, rfl, rfl, by omega, by omega, ha2, hrd2, hit3.out, hbel3⟩
          case measure => simp only [World.iterPos, hit3.out, hit]; omega
      · have h1 : ((pos : Int) == 0) = false := by simp; omega
        have h2 : (pos == 0) = false := by simp; omega
        simp only [List.getElem?_cons_succ, List.getElem?_cons_zero, Option.some.injEq, Prod.mk.injEq] at hg
        obtain ⟨rfl, _⟩ := hg
        cases hb : dig b
        · have hno := readO_two (a := a) (c := c) hb
          rw [Ho.out] at hno
          subst hno
          have Hb := Lib.hid hb
          clear hb
          go_wp2_with (go_at_call 30; refine (WithDigit_no 0 b _ (by omega) hr Hb.out).mono ?_; rintro e w' ⟨rfl, rfl⟩)
          go_ret2
          exact ⟨rfl, by rw [eg]; exact hbel2.out⟩
        · have hdg := dig_yes hb
          have hrd2 := Lib.hid (show ReadTo a b c 2 (pos + d) mo (b - 48) from .inr (.inr (.inl ⟨rfl, by omega, hi, hb, rfl⟩)))
          have Hb := Lib.hid hb
          clear hb
          go_wp2_with (go_at_call 30; refine (WithDigit_yes 0 b _ (by omega) Hb.out).mono ?_; rintro e w' ⟨rfl, rfl⟩)
          go_roundw
          case rel => exact ⟨2, pos + d, mo, b - 48, rfl, by first | rfl | go_num, by omega, by omega, ha2, hrd2, hit2.out, hbel2⟩
          case measure => simp only [World.iterPos, hit2.out, hit]; omega
      · have h1 : ((pos : Int) == 0) = false := by simp; omega
        have h2 : (pos == 0) = false := by simp; omega
        simp only [List.getElem?_cons_succ, List.getElem?_cons_zero, Option.some.injEq, Prod.mk.injEq] at hg
        obtain ⟨rfl, _⟩ := hg
        have hdb := dig_yes hb
        cases hc : dig c
        · have hno := readO_three (a := a) (b := b) hc
          rw [Ho.out] at hno
          subst hno
          have Hc := Lib.hid hc
          clear hc
          go_wp2_with (go_at_call 30; refine (WithDigit_no (b - 48) c _ (by omega) hr Hc.out).mono ?_; rintro e w' ⟨rfl, rfl⟩)
          go_ret2
          exact ⟨rfl, by rw [eg]; exact hbel2.out⟩
        · have hdg := dig_yes hc
          have hrd2 := Lib.hid (show ReadTo a b c 3 (pos + d) mo (10 * (b - 48) + (c - 48)) from .inr (.inr (.inr ⟨rfl, by omega, hi, hb, hc, rfl⟩)))
          have Hc := Lib.hid hc
          clear hc
          go_wp2_with (go_at_call 30; refine (WithDigit_yes (b - 48) c _ (by omega) Hc.out).mono ?_; rintro e w' ⟨rfl, rfl⟩)
          go_roundw
          case rel => exact ⟨3, pos + d, mo, 10 * (b - 48) + (c - 48), rfl, rfl, by omega, by omega, ha2, hrd2, hit2.out, hbel2⟩
          case measure => simp only [World.iterPos, hit2.out, hit]; omega
      · simp at hkl
    · have hn := fun ty => (at_stop hp).2 wr g ty hit
      have he := (at_end hat.out hp).2
      rw [HR.out] at he
      simp only [List.length_cons, List.length_nil] at he
      rcases hrd.out with ⟨rfl, _⟩ | ⟨rfl, _⟩ | ⟨rfl, _⟩ | ⟨_, hpp, hi, hb, hc, hy⟩
      · omega
      · omega
      · omega
      · have hok := readO_yes hi hb hc
        rw [Ho.out, ← hy] at hok
        subst hok
        clear hi hb hc hy
        go_wp2
        go_ret2
        exact ⟨rfl, by rw [eg]; exact hbel.out⟩

/-! ### The halves of a spread's name -/
/-- What stands ahead of the first stroke, and what behind. -/
def hdL (l : List UInt8) : List UInt8 := l.takeWhile (fun b => b != 45)
def tlL (l : List UInt8) : List UInt8 := (l.dropWhile (fun b => b != 45)).drop 1
theorem halves_at {a b : List UInt8} (h : ∀ x ∈ a, x ≠ 45) : hdL (a ++ 45 :: b) = a ∧ tlL (a ++ 45 :: b) = b := by
  induction a with
  | nil => exact ⟨rfl, rfl⟩
  | cons x a ih =>
    have h1 := h x List.mem_cons_self
    have h2 := ih (fun y hy => h y (List.mem_cons_of_mem _ hy))
    have hx : (x != 45) = true := by simp [h1]
    unfold hdL tlL at h2 ⊢
    rw [List.cons_append, List.takeWhile_cons, List.dropWhile_cons, hx]
    simp only [if_true]
    exact ⟨by rw [h2.1], h2.2⟩
theorem halves_none {l : List UInt8} (h : ∀ x ∈ l, x ≠ 45) : hdL l = l ∧ tlL l = [] := by
  induction l with
  | nil => exact ⟨rfl, rfl⟩
  | cons x a ih =>
    have h1 := h x List.mem_cons_self
    have h2 := ih (fun y hy => h y (List.mem_cons_of_mem _ hy))
    have hx : (x != 45) = true := by simp [h1]
    unfold hdL tlL at h2 ⊢
    rw [List.takeWhile_cons, List.dropWhile_cons, hx]
    simp only [if_true]
    exact ⟨by rw [h2.1], h2.2⟩
theorem hdL_len (l : List UInt8) : (hdL l).length ≤ l.length := by
  have := congrArg List.length (List.takeWhile_append_dropWhile (p := fun b : UInt8 => b != 45) (l := l))
  rw [List.length_append] at this
  unfold hdL; omega
theorem tlL_len (l : List UInt8) : (tlL l).length ≤ l.length := by
  have := congrArg List.length (List.takeWhile_append_dropWhile (p := fun b : UInt8 => b != 45) (l := l))
  rw [List.length_append] at this
  unfold tlL; rw [List.length_drop]; omega
/-- A rune that is no stroke has no stroke among its bytes; one that is one has just that. -/
theorem stroke_yes {l : List UInt8} {k pos d : Nat} (hg : (runes l)[k]? = some (45, (l.drop pos).take d)) (h0 : ∀ x ∈ l.take pos, x ≠ 45) (hp : pos < l.length) : l.take pos = hdL l ∧ l.drop (pos + 1) = tlL l := by
  obtain ⟨b, e1, e2⟩ := (piece_ascii l _ (List.mem_of_getElem? hg)).1 (by omega)
  have e3 : b = 45 := UInt8.toNat_inj.1 e2
  subst e3
  have e4 : l.drop pos = 45 :: l.drop (pos + 1) := by
    rw [List.drop_eq_getElem_cons hp] at e1 ⊢
    cases d with
    | zero => simp at e1
    | succ d =>
      rw [List.take_succ_cons] at e1
      injection e1 with e1 _
      rw [e1]
  have e5 : l = l.take pos ++ 45 :: l.drop (pos + 1) := by rw [← e4, List.take_append_drop]
  have h1 := halves_at (b := l.drop (pos + 1)) h0
  rw [← e5] at h1
  exact ⟨h1.1.symm, h1.2.symm⟩
theorem stroke_no {l : List UInt8} {k pos d r : Nat} (hg : (runes l)[k]? = some (r, (l.drop pos).take d)) (hr : r ≠ 45) (h0 : ∀ x ∈ l.take pos, x ≠ 45) : ∀ x ∈ l.take (pos + d), x ≠ 45 := by
  intro x hx
  rw [List.take_add] at hx
  rcases List.mem_append.1 hx with hx | hx
  · exact h0 x hx
  · obtain ⟨h1, h2⟩ := piece_ascii l _ (List.mem_of_getElem? hg)
    by_cases h128 : r < 128
    · obtain ⟨b, e1, e2⟩ := h1 h128
      simp only at e1 e2
      rw [e1] at hx
      rw [List.mem_singleton.1 hx]
      intro e
      rw [e] at e2
      exact hr e2.symm
    · have := h2 (by simp only; omega) x hx
      intro e
      rw [e] at this
      exact absurd this (by decide)

set_option maxRecDepth 100000 in
set_option maxHeartbeats 1000000 in
theorem Halves_any (l : List UInt8) (w : World) (hs : l.length ≤ 140737488355328) :
    Calls Try.prog 27 #[.string (str l)] w fun e w' => e = .returned (.tuple #[.string (str (hdL l)), .string (str (tlL l))]) ∧ Below w.heap.size w w' := by
  have hz : (str l).size ≤ 140737488355328 := by rw [str_size]; exact hs
  have hz2 := str_size l
  go_enter Try.func27, Try.ntmps27
  go_wp2
  go_loopw [] (fun wr => ∃ k pos : Nat, pos ≤ l.length ∧ Hid (At l k pos) ∧ Hid (∀ x ∈ l.take pos, x ≠ 45) ∧ wr = w.iter (str l) pos) (fun wr => l.length - wr.iterPos w.heap.size)
  case atStart => exact ⟨0, 0, by omega, Lib.hid (at_zero _), Lib.hid (by simp), rfl⟩
  case round =>
    obtain ⟨k, pos, hpl, hat, h0, rfl⟩ := hrel
    by_cases hp : pos < l.length
    · obtain ⟨r, d, hnx, _, hd, hpd, hkl, hg, ha2, hr⟩ := at_step hat.out hp
      have ha2 := Lib.hid ha2
      have hn := hnx w
      have hg := Lib.hid hg
      clear hnx
      by_cases hc : r = 45
      · subst hc
        have ⟨e1, e2⟩ := stroke_yes hg.out h0.out hp
        have x1 : Hid ((str l).extract 0 pos = str (hdL l)) := Lib.hid (by rw [ext_to, e1])
        have x2 : Hid ((str l).extract (pos + 1) l.length = str (tlL l)) := Lib.hid (by rw [ext_str, List.take_of_length_le (by rw [List.length_drop]; omega), e2])
        have s1 : pos ≤ (str l).size := by omega
        have s2 : pos + 1 ≤ (str l).size := by omega
        clear e1 e2
        go_wp2_with fail
        go_region
        go_wp2_with fail
        go_ret2
        exact ⟨by rw [x1.out, x2.out]; rfl, (below_iter _ _ _).drew⟩
      · have h2 := Lib.hid (stroke_no hg.out hc h0.out)
        have i1 : ((r : Int) == 45) = false := by simp; omega
        have i2 : (r == 45) = false := by simp; omega
        clear hc
        go_wp2
        go_roundw
        case rel => exact ⟨k + 1, pos + d, hpd, ha2, h2, rfl⟩
        case measure => simp only [World.iterPos_iter]; omega
    · have hn := (at_stop hp).1 w
      have he := (at_end hat.out hp).1
      have hno := Lib.hid (halves_none (l := l) (fun x hx => h0.out x (by rw [he, List.take_length]; exact hx)))
      clear he
      go_wp2
      go_ret2
      exact ⟨by rw [hno.out.1, hno.out.2]; rfl, below_iter _ _ _⟩
end Go.Proofs.Ytfhegnmfkmolbaa
