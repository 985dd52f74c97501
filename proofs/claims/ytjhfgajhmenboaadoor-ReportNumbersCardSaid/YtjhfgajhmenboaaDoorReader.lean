/-
  Contracts: take, of the program's Reader.
-/
import Derived.Test.YtjhfgajhmenboaaDoorNumber
import Derived.Test.YtjhfgajhmenboaaDoorRefReader3
namespace Go.Proofs.YtjhfgajhmenboaaDoor
open Go.RowKit
set_option linter.unusedVariables false
set_option linter.unusedSimpArgs false

/-- The program's reader in block c: what is left, and whether bytes were missing. -/
def PAt (c : Nat) (A : Option Addr) (m cap : Nat) (s : Bool) (w : World) : Prop := w.heap[c]? = some (.cells #[.slice A m cap, .bool s] 89 (0, 0))
theorem PAt.cells {c : Nat} {A : Option Addr} {m cap : Nat} {s : Bool} {w : World} (h : PAt c A m cap s w) :
    w.cell? ⟨c, 0, none⟩ = some (.slice A m cap) ∧ w.cell? ⟨c, 1, none⟩ = some (.bool s) ∧ w.frozen? ⟨c, 0, none⟩ = false ∧ w.frozen? ⟨c, 1, none⟩ = false :=
  ⟨by rw [Lib.cell_of_heap h]; rfl, by rw [Lib.cell_of_heap h]; rfl, Lib.frozen_of_heap h 0, Lib.frozen_of_heap h 1⟩
theorem PAt.drewN {c : Nat} {A : Option Addr} {m cap : Nat} {s : Bool} {w : World} (h : PAt c A m cap s w) (q : Nat) : PAt c A m cap s (w.drewN q) := h
theorem PAt.lt {c : Nat} {A : Option Addr} {m cap : Nat} {s : Bool} {w : World} (h : PAt c A m cap s w) : c < w.heap.size := (Array.getElem?_eq_some_iff.1 h).1
theorem PAt.set0 {c : Nat} {A A' : Option Addr} {m cap m' cap' : Nat} {s : Bool} {w : World} (h : PAt c A m cap s w) : PAt c A' m' cap' s (w.setCell ⟨c, 0, none⟩ (.slice A' m' cap')) ∧ w.grownBy (w.setCell ⟨c, 0, none⟩ (.slice A' m' cap')) (some c) := by
  refine ⟨?_, ⟨rfl, rfl, rfl, by simp, fun j _ hj => heap_setCell_other w ⟨c, 0, none⟩ j _ (fun e => hj (by simp [e]))⟩⟩
  unfold PAt
  rw [heap_setCell_same w c 0 _ _ _ h]
  rfl
theorem PAt.set1 {c : Nat} {A : Option Addr} {m cap : Nat} {s s' : Bool} {w : World} (h : PAt c A m cap s w) : PAt c A m cap s' (w.setCell ⟨c, 1, none⟩ (.bool s')) ∧ w.grownBy (w.setCell ⟨c, 1, none⟩ (.bool s')) (some c) := by
  refine ⟨?_, ⟨rfl, rfl, rfl, by simp, fun j _ hj => heap_setCell_other w ⟨c, 1, none⟩ j _ (fun e => hj (by simp [e]))⟩⟩
  unfold PAt
  rw [heap_setCell_same w c 1 _ _ _ h]
  rfl

set_option maxRecDepth 100000 in
set_option maxHeartbeats 1000000 in
theorem PTake_bad (c : Nat) (A : Option Addr) (n cap m : Nat) (w : World) (h : Hid (PAt c A n cap true w)) :
    Calls Tryd.prog 55 #[.pointer (some ⟨c, 0, none⟩), .int .i64 m] w fun e w' => e = .returned (.slice none 0 0) ∧ PAt c A n cap true w' ∧ w.grownBy w' (some c) := by
  obtain ⟨c0, c1, f0, f1⟩ := h.out.cells
  go_enter Tryd.func55, Tryd.ntmps55
  go_wp2_with fail
  go_ret
  obtain ⟨u1, u2⟩ := h.out.set1 (s' := true)
  exact ⟨rfl, u1, u2⟩
set_option maxRecDepth 100000 in
set_option maxHeartbeats 1000000 in
theorem PTake_short (c : Nat) (A : Option Addr) (n cap m : Nat) (w : World) (h : Hid (PAt c A n cap false w)) (hn : n ≤ 140737488355328) (hm : m ≤ 140737488355328) (hs : n < m) :
    Calls Tryd.prog 55 #[.pointer (some ⟨c, 0, none⟩), .int .i64 m] w fun e w' => e = .returned (.slice none 0 0) ∧ PAt c A n cap true w' ∧ w.grownBy w' (some c) := by
  obtain ⟨c0, c1, f0, f1⟩ := h.out.cells
  have d1 : decide ((n : Int) < m) = true := decide_eq_true (by omega)
  go_enter Tryd.func55, Tryd.ntmps55
  go_wp2_with fail
  go_ret
  obtain ⟨u1, u2⟩ := h.out.set1 (s' := true)
  exact ⟨rfl, u1, u2⟩
set_option maxRecDepth 100000 in
set_option maxHeartbeats 1000000 in
theorem PTake_yes (c b off n cap m : Nat) (w : World) (h : Hid (PAt c (some ⟨b, off, none⟩) n cap false w)) (hn : n ≤ 140737488355328) (hcap : n ≤ cap) (hcap2 : cap ≤ 9223372036854775807) (hm : m ≤ n) (hne : ¬ cap = m) :
    Calls Tryd.prog 55 #[.pointer (some ⟨c, 0, none⟩), .int .i64 m] w fun e w' => e = .returned (.slice (some ⟨b, off, none⟩) m cap) ∧ PAt c (some ⟨b, off + m, none⟩) (n - m) (cap - m) false w' ∧ w.grownBy w' (some c) := by
  obtain ⟨c0, c1, f0, f1⟩ := h.out.cells
  have d1 : decide ((n : Int) < m) = false := decide_eq_false (by omega)
  have s2 : m ≤ cap := by omega
  go_enter Tryd.func55, Tryd.ntmps55
  go_wp2_with fail
  go_ret
  obtain ⟨u1, u2⟩ := h.out.set0 (A' := some ⟨b, off + m, none⟩) (m' := n - m) (cap' := cap - m)
  exact ⟨rfl, u1, u2⟩
set_option maxRecDepth 100000 in
set_option maxHeartbeats 1000000 in
theorem PTake_all (c : Nat) (A : Option Addr) (n : Nat) (w : World) (h : Hid (PAt c A n n false w)) (hn : n ≤ 140737488355328) (hA : A = none → n = 0) :
    Calls Tryd.prog 55 #[.pointer (some ⟨c, 0, none⟩), .int .i64 n] w fun e w' => e = .returned (.slice A n n) ∧ PAt c A 0 0 false w' ∧ w.grownBy w' (some c) := by
  cases A with
  | none =>
    obtain rfl := hA rfl
    obtain ⟨c0, c1, f0, f1⟩ := h.out.cells
    go_enter Tryd.func55, Tryd.ntmps55
    go_wp2_with fail
    go_ret
    obtain ⟨u1, u2⟩ := h.out.set0 (A' := none) (m' := 0) (cap' := 0)
    exact ⟨rfl, u1, u2⟩
  | some ad =>
    obtain ⟨c0, c1, f0, f1⟩ := h.out.cells
    have d1 : decide ((n : Int) < n) = false := decide_eq_false (by omega)
    go_enter Tryd.func55, Tryd.ntmps55
    go_wp2_with fail
    go_ret
    obtain ⟨u1, u2⟩ := h.out.set0 (A' := some ad) (m' := 0) (cap' := 0)
    exact ⟨rfl, u1, u2⟩

/-- The program's reader in block c reads the list l, at place k, with the number y; what is left of its own bytes lies in block g. -/
structure PR (c g : Nat) (l : List UInt8) (k y : Nat) (w : World) : Prop where
  at' : ∃ A m cap, PAt c A m cap (decide (0 < y)) w ∧ HB w A m (l.drop k) ∧ (∀ ad, A = some ad → ad.block = g ∧ g ≠ c ∧ ad.spot = none) ∧ m ≤ cap ∧ cap ≤ 9223372036854775807 ∧ (A = none → cap = 0 ∧ l = [])
  kn : k ≤ l.length
  num : y = 0 ∨ y = 10
  short : l.length ≤ 140737488355328
theorem PR.lt {c g : Nat} {l : List UInt8} {k y : Nat} {w : World} (h : PR c g l k y w) : c < w.heap.size := by
  obtain ⟨A, m, cap, h1, _⟩ := h.at'; exact h1.lt
theorem PR.only {p : Nat → Prop} {c g : Nat} {l : List UInt8} {k y : Nat} {w w' : World} (h : PR c g l k y w) (ho : Only p w w') (hc : ¬ p c) (hg : ¬ p g) : PR c g l k y w' := by
  obtain ⟨A, m, cap, h1, h2, h3, h4⟩ := h.at'
  exact ⟨⟨A, m, cap, (ho.block c h1.lt hc).trans h1, h2.only ho (fun b off sp e => by rw [← (h3 _ e).1] at hg; exact hg), h3, h4⟩, h.kn, h.num, h.short⟩
theorem PR.drewN {c g : Nat} {l : List UInt8} {k y : Nat} {w : World} (h : PR c g l k y w) (q : Nat) : PR c g l k y (w.drewN q) := by
  obtain ⟨A, m, cap, h1, h2, h3, h4⟩ := h.at'
  exact ⟨⟨A, m, cap, h1, h2, h3, h4⟩, h.kn, h.num, h.short⟩

theorem PTake_any (c g : Nat) (l : List UInt8) (k y m : Nat) (w : World) (h : Hid (PR c g l k y w)) (hm : m ≤ 140737488355328) (hA : l = [] → 0 < m ∨ 0 < y) :
    Calls Tryd.prog 55 #[.pointer (some ⟨c, 0, none⟩), .int .i64 m] w fun e w' => ∃ A' c', e = .returned (.slice A' (rdTake l k y m).1.length c') ∧ HB w' A' (rdTake l k y m).1.length (rdTake l k y m).1 ∧
      PR c g l (rdTake l k y m).2.1 (rdTake l k y m).2.2 w' ∧ w.grownBy w' (some c) := by
  obtain ⟨A, n, cap, h1, h2, h3, h4, h5, h6⟩ := h.out.at'
  have hkn := h.out.kn
  have hnum := h.out.num
  have hsh := h.out.short
  have hn : n = l.length - k := by rw [← h2.1, List.length_drop]
  by_cases hy : 0 < y
  · rw [rdTake_bad hy]
    rw [decide_eq_true hy] at h1
    refine (PTake_bad c A n cap m w (Lib.hid h1)).mono ?_
    rintro e w' ⟨rfl, u1, u2⟩
    refine ⟨none, 0, rfl, hb_nil _ _, ⟨⟨A, n, cap, by rw [decide_eq_true hy]; exact u1, h2.grown u2 (fun b off sp e he => ?_), h3, h4, h5, h6⟩, hkn, hnum, hsh⟩, u2⟩
    obtain ⟨q1, q2, _⟩ := h3 _ e
    injection he with he
    exact q2 (by rw [← q1]; exact he)
  · obtain rfl : y = 0 := by omega
    rw [show decide (0 < 0) = false by decide] at h1
    by_cases hs : n < m
    · rw [rdTake_short (by omega)]
      refine (PTake_short c A n cap m w (Lib.hid h1) (by omega) hm hs).mono ?_
      rintro e w' ⟨rfl, u1, u2⟩
      refine ⟨none, 0, rfl, hb_nil _ _, ⟨⟨A, n, cap, u1, h2.grown u2 (fun b off sp e he => ?_), h3, h4, h5, h6⟩, hkn, .inr rfl, hsh⟩, u2⟩
      obtain ⟨q1, q2, _⟩ := h3 _ e
      injection he with he
      exact q2 (by rw [← q1]; exact he)
    · rw [rdTake_yes (by omega)]
      have hlen : ((l.drop k).take m).length = m := by rw [List.length_take, List.length_drop]; omega
      have far : ∀ b off sp, A = some ⟨b, off, sp⟩ → some b ≠ some c := by
        intro b off sp e he
        obtain ⟨q1, q2, _⟩ := h3 _ e
        injection he with he
        exact q2 (by rw [← q1]; exact he)
      by_cases hc : cap = m
      · have hmn : n = m := by omega
        subst hc
        subst hmn
        refine (PTake_all c A n w (Lib.hid h1) (by omega) (fun e => (h6 e).1)).mono ?_
        rintro e w' ⟨rfl, u1, u2⟩
        have hb' := h2.grown u2 far
        have hall : (l.drop k).take n = l.drop k := List.take_of_length_le (by rw [List.length_drop]; omega)
        rw [hall]
        refine ⟨A, n, by rw [List.length_drop, ← hn], by rw [List.length_drop, ← hn]; exact hb', ⟨⟨A, 0, 0, u1, ?_, h3, Nat.le_refl _, by omega, fun e => ⟨rfl, (h6 e).2⟩⟩, by show k + n ≤ l.length; omega, .inl rfl, hsh⟩, u2⟩
        rw [List.drop_eq_nil_of_le (show l.length ≤ k + n by omega)]
        exact hb_nil _ _
      · cases A with
        | none =>
          exfalso
          obtain ⟨e1, e2⟩ := h6 rfl
          have := hA e2
          omega
        | some ad =>
          obtain ⟨b, off, spot⟩ := ad
          have hsp : spot = none := (h3 _ rfl).2.2
          subst hsp
          refine (PTake_yes c b off n cap m w (Lib.hid h1) (by omega) h4 h5 (by omega) hc).mono ?_
          rintro e w' ⟨rfl, u1, u2⟩
          have hb' := h2.grown u2 far
          refine ⟨_, cap, by rw [hlen], by rw [hlen]; exact hb'.take (by omega), ⟨⟨_, n - m, cap - m, u1, ?_, ?_, by omega, by omega, fun e => by cases e⟩, by show k + m ≤ l.length; omega, .inl rfl, hsh⟩, u2⟩
          · have := hb'.drop (k := m) (by omega)
            rw [List.drop_drop, WideShapes.add_plain] at this
            exact this
          · intro ad e
            injection e with e
            subst e
            obtain ⟨q1, q2, _⟩ := h3 _ rfl
            exact ⟨q1, q2, rfl⟩
end Go.Proofs.YtjhfgajhmenboaaDoor
