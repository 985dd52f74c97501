/-
  Contracts: the Reader of the document's own answer: take, Byte, Long, Text, End.
-/
import Derived.Test.YtjhfgajhmenboaaDoorRefLong
import Derived.Test.YtjhfgajhmenboaaDoorRoomy
namespace Go.Proofs.YtjhfgajhmenboaaDoor
open Go.RowKit
set_option linter.unusedVariables false
set_option linter.unusedSimpArgs false

/-- The reader in block c: over this slice, at place k, with the number y. -/
def RdAt (c : Nat) (A : Option Addr) (n cap k y : Nat) (w : World) : Prop := w.heap[c]? = some (.cells #[.slice A n cap, .int .i64 k, .int .i64 y] 83 (0, 0))
theorem rd_cells {c : Nat} {A : Option Addr} {n cap k y : Nat} {w : World} (h : RdAt c A n cap k y w) :
    w.cell? ⟨c, 0, none⟩ = some (.slice A n cap) ∧ w.cell? ⟨c, 1, none⟩ = some (.int .i64 k) ∧ w.cell? ⟨c, 2, none⟩ = some (.int .i64 y) ∧ w.frozen? ⟨c, 1, none⟩ = false ∧ w.frozen? ⟨c, 2, none⟩ = false :=
  ⟨by rw [Lib.cell_of_heap h]; rfl, by rw [Lib.cell_of_heap h]; rfl, by rw [Lib.cell_of_heap h]; rfl, Lib.frozen_of_heap h 1, Lib.frozen_of_heap h 2⟩
theorem RdAt.drewN {c : Nat} {A : Option Addr} {n cap k y : Nat} {w : World} (h : RdAt c A n cap k y w) (q : Nat) : RdAt c A n cap k y (w.drewN q) := h
theorem RdAt.lt {c : Nat} {A : Option Addr} {n cap k y : Nat} {w : World} (h : RdAt c A n cap k y w) : c < w.heap.size := (Array.getElem?_eq_some_iff.1 h).1
theorem RdAt.set1 {c : Nat} {A : Option Addr} {n cap k y : Nat} {w : World} (h : RdAt c A n cap k y w) (k' : Nat) : RdAt c A n cap k' y (w.setCell ⟨c, 1, none⟩ (.int .i64 k')) ∧ w.grownBy (w.setCell ⟨c, 1, none⟩ (.int .i64 k')) (some c) := by
  refine ⟨?_, ⟨rfl, rfl, rfl, by simp, fun j _ hj => heap_setCell_other w ⟨c, 1, none⟩ j _ (fun e => hj (by simp [e]))⟩⟩
  unfold RdAt
  rw [heap_setCell_same w c 1 _ _ _ h]
  rfl
theorem RdAt.set2 {c : Nat} {A : Option Addr} {n cap k y : Nat} {w : World} (h : RdAt c A n cap k y w) (y' : Nat) : RdAt c A n cap k y' (w.setCell ⟨c, 2, none⟩ (.int .i64 y')) ∧ w.grownBy (w.setCell ⟨c, 2, none⟩ (.int .i64 y')) (some c) := by
  refine ⟨?_, ⟨rfl, rfl, rfl, by simp, fun j _ hj => heap_setCell_other w ⟨c, 2, none⟩ j _ (fun e => hj (by simp [e]))⟩⟩
  unfold RdAt
  rw [heap_setCell_same w c 2 _ _ _ h]
  rfl
theorem grown_drewN {w w' : World} {row : Option Nat} (h : w.grownBy w' row) (q : Nat) : w.grownBy (w'.drewN q) row := ⟨h.os, h.tape, h.output, h.size, h.block⟩
theorem grown_draws (w : World) (q : Nat) (row : Option Nat) : w.grownBy (w.drewN q) row := ⟨rfl, rfl, rfl, Nat.le_refl _, fun _ _ _ => rfl⟩

set_option maxRecDepth 100000 in
set_option maxHeartbeats 1000000 in
theorem Take_bad (c : Nat) (A : Option Addr) (n cap k y m : Nat) (w : World) (h : Hid (RdAt c A n cap k y w)) (hy : 0 < y) :
    Calls Tryd.prog 54 #[.pointer (some ⟨c, 0, none⟩), .int .i64 m] w fun e w' => e = .returned (.slice none 0 0) ∧ w' = w := by
  obtain ⟨c0, c1, c2, f1, f2⟩ := rd_cells h.out
  have i1 : ((y : Int) != 0) = true := by simp; omega
  go_enter Tryd.func54, Tryd.ntmps54
  go_wp2_with fail
  go_ret
  exact ⟨rfl, rfl⟩
set_option maxRecDepth 100000 in
set_option maxHeartbeats 1000000 in
theorem Take_short (c : Nat) (A : Option Addr) (n cap k m : Nat) (w : World) (h : Hid (RdAt c A n cap k 0 w)) (hn : n ≤ 140737488355328) (hk : k ≤ n) (hm : m ≤ 140737488355328) (hs : n < k + m) :
    Calls Tryd.prog 54 #[.pointer (some ⟨c, 0, none⟩), .int .i64 m] w fun e w' => e = .returned (.slice none 0 0) ∧ RdAt c A n cap k 10 w' ∧ w.grownBy w' (some c) := by
  obtain ⟨c0, c1, c2, f1, f2⟩ := rd_cells h.out
  have i1 : (((0 : Nat) : Int) != 0) = false := by decide
  have d1 : decide ((n : Int) - k < m) = true := decide_eq_true (by omega)
  go_enter Tryd.func54, Tryd.ntmps54
  go_wp2_with fail
  go_quiet (fail)
  go_wp2_with fail
  go_ret
  obtain ⟨s1, s2⟩ := (h.out.drewN _).set2 10
  exact ⟨rfl, s1, (grown_draws w _ _).trans s2⟩
set_option maxRecDepth 100000 in
set_option maxHeartbeats 1000000 in
theorem Take_yes (c : Nat) (A : Option Addr) (n cap k m : Nat) (w : World) (h : Hid (RdAt c A n cap k 0 w)) (hn : n ≤ 140737488355328) (hcap : n ≤ cap) (hcap2 : cap ≤ 9223372036854775807) (hk : k + m ≤ n) (b off : Nat) (hA : A = some ⟨b, off, none⟩) (hne : ¬ cap = k) :
    Calls Tryd.prog 54 #[.pointer (some ⟨c, 0, none⟩), .int .i64 m] w fun e w' => e = .returned (.slice (some ⟨b, off + k, none⟩) m (cap - k)) ∧ RdAt c A n cap (k + m) 0 w' ∧ w.grownBy w' (some c) := by
  subst hA
  obtain ⟨c0, c1, c2, f1, f2⟩ := rd_cells h.out
  have i1 : (((0 : Nat) : Int) != 0) = false := by decide
  have d1 : decide ((n : Int) - k < m) = false := decide_eq_false (by omega)
  have s1 : IntKind.i64.wrap ((k : Int) + (m : Int)) = ((k + m : Nat) : Int) := by rw [IntWalk.i64_in _ (by omega)]; omega
  have s2 : k + m ≤ cap := by omega
  have s3 : k ≤ k + m := by omega
  have s4 : k ≤ cap := by omega
  have s5 : (k + m) - k = m := by omega
  go_enter Tryd.func54, Tryd.ntmps54
  go_wp2_with fail
  go_quiet (fail)
  go_wp2_with fail
  go_quiet (fail)
  rw [s5]
  go_wp2_with fail
  go_ret
  obtain ⟨u1, u2⟩ := (h.out.drewN _).set1 (k + m)
  rw [show ((k + m : Nat) : Int) = (k : Int) + (m : Int) by omega] at u1 u2
  exact ⟨rfl, u1, (grown_draws w _ _).trans u2⟩
theorem HB.grown {w w' : World} {A : Option Addr} {n : Nat} {l : List UInt8} {row : Option Nat} (h : HB w A n l) (hg : w.grownBy w' row) (hne : ∀ b off sp, A = some ⟨b, off, sp⟩ → some b ≠ row) : HB w' A n l := by
  refine ⟨h.1, fun hn => ?_⟩
  obtain ⟨b, off, e, hc⟩ := h.2 hn
  exact ⟨b, off, e, fun k hk => hg.cell (hc k hk) (hne b off none e)⟩
set_option maxRecDepth 100000 in
set_option maxHeartbeats 1000000 in
theorem Take_end (c b off n k : Nat) (w : World) (h : Hid (RdAt c (some ⟨b, off, none⟩) n k k 0 w)) (hn : n ≤ 140737488355328) (hk : k = n) :
    Calls Tryd.prog 54 #[.pointer (some ⟨c, 0, none⟩), .int .i64 ((0 : Nat) : Int)] w fun e w' => e = .returned (.slice (some ⟨b, off, none⟩) 0 0) ∧ RdAt c (some ⟨b, off, none⟩) n k k 0 w' ∧ w.grownBy w' (some c) := by
  subst hk
  obtain ⟨c0, c1, c2, f1, f2⟩ := rd_cells h.out
  have i1 : (((0 : Nat) : Int) != 0) = false := by decide
  have d1 : decide ((k : Int) - k < ((0 : Nat) : Int)) = false := decide_eq_false (by omega)
  have s1 : IntKind.i64.wrap ((k : Int) + ((0 : Nat) : Int)) = (k : Int) := by rw [IntWalk.i64_in _ (by omega)]; omega
  go_enter Tryd.func54, Tryd.ntmps54
  go_wp2_with fail
  go_quiet (fail)
  go_wp2_with fail
  go_quiet (fail)
  go_wp2_with fail
  go_ret
  obtain ⟨u1, u2⟩ := (h.out.drewN _).set1 k
  exact ⟨rfl, u1, (grown_draws w _ _).trans u2⟩

/-- What is taken, the place behind it, the number. -/
def rdTake (l : List UInt8) (k y m : Nat) : List UInt8 × Nat × Nat :=
  if 0 < y then ([], k, y) else if l.length < k + m then ([], k, 10) else ((l.drop k).take m, k + m, 0)
theorem rdTake_bad {l : List UInt8} {k y m : Nat} (h : 0 < y) : rdTake l k y m = ([], k, y) := by unfold rdTake; rw [if_pos h]
theorem rdTake_short {l : List UInt8} {k m : Nat} (h : l.length < k + m) : rdTake l k 0 m = ([], k, 10) := by unfold rdTake; rw [if_neg (by omega), if_pos h]
theorem rdTake_yes {l : List UInt8} {k m : Nat} (h : k + m ≤ l.length) : rdTake l k 0 m = ((l.drop k).take m, k + m, 0) := by unfold rdTake; rw [if_neg (by omega), if_neg (by omega)]
/-- What a reader over some bytes needs: it stands in block c, the bytes elsewhere. -/
structure Rd (c : Nat) (A : Option Addr) (n cap : Nat) (l : List UInt8) (k y : Nat) (w : World) : Prop where
  at' : RdAt c A n cap k y w
  hb : HB w A n l
  far : ∀ b off sp, A = some ⟨b, off, sp⟩ → b ≠ c
  kn : k ≤ n
  ncap : n ≤ cap
  cmax : cap ≤ 9223372036854775807
  nmax : n ≤ 140737488355328
  none0 : A = none → cap = 0
  plain : ∀ ad, A = some ad → ad.spot = none
theorem Rd.next {c : Nat} {A : Option Addr} {n cap : Nat} {l : List UInt8} {k y k' y' : Nat} {w w' : World} (h : Rd c A n cap l k y w) (h' : RdAt c A n cap k' y' w') (hg : w.grownBy w' (some c)) (hk : k' ≤ n) : Rd c A n cap l k' y' w' :=
  ⟨h', h.hb.grown hg (fun b off sp e he => h.far b off sp e (by injection he)), h.far, hk, h.ncap, h.cmax, h.nmax, h.none0, h.plain⟩
theorem Take_any (c : Nat) (A : Option Addr) (n cap : Nat) (l : List UInt8) (k y m : Nat) (w : World) (h : Hid (Rd c A n cap l k y w)) (hm : m ≤ 140737488355328) (hA : A = none → 0 < m ∨ 0 < y) :
    Calls Tryd.prog 54 #[.pointer (some ⟨c, 0, none⟩), .int .i64 m] w fun e w' => ∃ A' c', e = .returned (.slice A' (rdTake l k y m).1.length c') ∧ HB w' A' (rdTake l k y m).1.length (rdTake l k y m).1 ∧
      Rd c A n cap l (rdTake l k y m).2.1 (rdTake l k y m).2.2 w' ∧ w.grownBy w' (some c) := by
  have H := h.out
  have hl := H.hb.1
  by_cases hy : 0 < y
  · rw [rdTake_bad hy]
    refine (Take_bad c A n cap k y m w (Lib.hid H.at') hy).mono ?_
    rintro e w' ⟨rfl, rfl⟩
    exact ⟨none, 0, rfl, hb_nil _ _, H, World.grownBy.refl _ _⟩
  · obtain rfl : y = 0 := by omega
    by_cases hs : n < k + m
    · rw [rdTake_short (by omega)]
      refine (Take_short c A n cap k m w (Lib.hid H.at') H.nmax H.kn hm hs).mono ?_
      rintro e w' ⟨rfl, h1, h2⟩
      exact ⟨none, 0, rfl, hb_nil _ _, H.next h1 h2 H.kn, h2⟩
    · rw [rdTake_yes (by omega)]
      cases A with
      | none =>
        exfalso
        have := H.none0 rfl
        have := H.ncap
        rcases hA rfl with h1 | h1 <;> omega
      | some ad =>
        obtain ⟨b, off, spot⟩ := ad
        have hsp : spot = none := H.plain _ rfl
        subst hsp
        have hlen : ((l.drop k).take m).length = m := by rw [List.length_take, List.length_drop, hl]; omega
        by_cases hk : cap = k
        · obtain rfl : m = 0 := by have := H.ncap; omega
          subst hk
          have hkn : cap = n := by have := H.ncap; have := H.kn; omega
          refine (Take_end c b off n cap w (Lib.hid H.at') H.nmax hkn).mono ?_
          rintro e w' ⟨rfl, h1, h2⟩
          rw [List.take_zero]
          exact ⟨some ⟨b, off, none⟩, 0, rfl, hb_nil _ _, H.next h1 h2 H.kn, h2⟩
        · refine (Take_yes c _ n cap k m w (Lib.hid H.at') H.nmax H.ncap H.cmax (by omega) b off rfl hk).mono ?_
          rintro e w' ⟨rfl, h1, h2⟩
          have hkm : k + m ≤ n := by omega
          have hnx := H.next h1 h2 hkm
          have hw := hnx.hb.win (i := k) (m := m) hkm
          exact ⟨some ⟨b, off + k, none⟩, cap - k, by rw [hlen], by rw [hlen]; exact hw, hnx, h2⟩
end Go.Proofs.YtjhfgajhmenboaaDoor
