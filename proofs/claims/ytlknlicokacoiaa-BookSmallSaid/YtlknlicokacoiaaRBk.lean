/-
  The document's own book in memory; Better, find, Find, of cornhillref9.
-/
import Derived.Test.YtlknlicokacoiaaBkTop
namespace Go.Proofs.Ytlknlicokacoiaa
open Go.RowKit
set_option linter.unusedVariables false
set_option linter.unusedSimpArgs false

/-- The document's book in block d: its orders lie in the row v. -/
structure Rm (B d : Nat) (v : Value) (L : List Or) (w : World) : Prop where
  at' : w.heap[d]? = some (.cells #[v] 27 (0, 0))
  own : Own fO 68 w B v L
  lo : B ≤ d
  far : v.ownBlock ≠ some d
def rfoot (d : Nat) (v : Value) (k : Nat) : Prop := k = d ∨ v.ownBlock = some k
section
variable {B d : Nat} {v : Value} {L : List Or} {w w' : World}
theorem Rm.lt (h : Rm B d v L w) {k : Nat} (hk : rfoot d v k) : B ≤ k ∧ k < w.heap.size := by
  rcases hk with rfl | hk
  · exact ⟨h.lo, (Array.getElem?_eq_some_iff.1 h.at').1⟩
  · exact h.own.lt k hk
theorem Rm.only {p : Nat → Prop} (h : Rm B d v L w) (ho : Only p w w') (hp : ∀ k, rfoot d v k → ¬ p k) : Rm B d v L w' :=
  ⟨(ho.block d (h.lt (.inl rfl)).2 (hp d (.inl rfl))).trans h.at', h.own.only ho (fun k hk => hp k (.inr hk)), h.lo, h.far⟩
theorem Rm.below (h : Rm B d v L w) (hb : Below w.heap.size w w') : Rm B d v L w' := h.only (only_below hb) (fun _ _ e => e)
theorem Rm.cell (h : Rm B d v L w) : w.cell? ⟨d, 0, none⟩ = some v ∧ w.frozen? ⟨d, 0, none⟩ = false := by
  refine ⟨?_, Lib.frozen_of_heap h.at' 0⟩
  rw [Lib.cell_of_heap h.at']; rfl
end
set_option maxRecDepth 100000 in
theorem RBetter_any (s p q : Int) (w : World) :
    Calls Try.prog 49 #[.int .i64 s, .int .i64 p, .int .i64 q] w fun e w' => e = .returned (.bool (bet s p q)) ∧ w = w' := by
  by_cases h1 : s = 1
  · subst h1
    rw [bet_one]
    go_enter Try.func49, Try.ntmps49
    go_wp2
    go_ret
    exact ⟨rfl, rfl⟩
  · rw [bet_two _ _ h1]
    have d1 : (s == 1) = false := by simpa using h1
    go_enter Try.func49, Try.ntmps49
    go_wp2
    go_ret
    exact ⟨rfl, rfl⟩
/-- The place of the order of this ID, or -1. -/
def idxO (L : List Or) (i : Int) : Int := match cutO i L with | none => -1 | some (A, _, _) => (A.length : Int)
theorem idxO_cases (L : List Or) (i : Int) : (idxO L i = -1 ∧ cutO i L = none ∧ ∀ x ∈ L, x.i ≠ i) ∨ ∃ A x C, cutO i L = some (A, x, C) ∧ L = A ++ x :: C ∧ x.i = i ∧ (∀ y ∈ A, y.i ≠ i) ∧ idxO L i = (A.length : Int) := by
  unfold idxO
  cases h : cutO i L with
  | none => exact .inl ⟨rfl, rfl, cutO_none h⟩
  | some t =>
    obtain ⟨A, x, C⟩ := t
    obtain ⟨a, b, c⟩ := cutO_some h
    exact .inr ⟨A, x, C, rfl, a, b, c, rfl⟩
set_option maxRecDepth 100000 in
set_option maxHeartbeats 1000000 in
theorem RFindI_any (B d : Nat) (v : Value) (L : List Or) (i : Int) (w : World) (hR : Hid (Rm B d v L w)) (hn : L.length ≤ 1000000) :
    Calls Try.prog 48 #[.pointer (some ⟨d, 0, none⟩), .int .i64 i] w fun e w' => e = .returned (.int .i64 (idxO L i)) ∧ w = w' := by
  obtain ⟨c0, -⟩ := hR.out.cell
  obtain ⟨A, cap, ev, hv, h1, h2, -, -⟩ := hR.out.own.slice
  obtain ⟨n, en⟩ : ∃ n, L.length = n := ⟨_, rfl⟩
  rw [ev, en] at c0
  rw [en] at hv hn h1
  have hvh := Lib.hid hv
  obtain ⟨K, eK⟩ : ∃ K, idxO L i = K := ⟨_, rfl⟩
  rw [eK]
  have hK : Hid ((K = -1 ∧ ∀ x ∈ L, x.i ≠ i) ∨ ∃ k : Nat, K = k ∧ (∃ x, L[k]? = some x ∧ x.i = i) ∧ ∀ j x, j < k → L[j]? = some x → x.i ≠ i) := Lib.hid (by
    rcases idxO_cases L i with ⟨e1, -, e3⟩ | ⟨A', x, C, -, e2, e3, e4, e5⟩
    · exact .inl ⟨eK.symm.trans e1, e3⟩
    · refine .inr ⟨A'.length, eK.symm.trans e5, ⟨x, by rw [e2]; simp, e3⟩, fun j y hj hy => e4 y ?_⟩
      rw [e2, List.getElem?_append_left hj] at hy
      exact List.mem_of_getElem? hy)
  replace ev := Lib.hid ev
  replace en := Lib.hid en
  clear eK hv
  go_enter Try.func48, Try.ntmps48
  go_wp2_with fail
  go_loop [5] (fun i' => ∃ k : Nat, i' = .int .i64 k ∧ k ≤ n ∧ Hid (∀ j x, j < k → L[j]? = some x → x.i ≠ i)) (fun i' => (n - intOf i').toNat)
  case atStart => exact ⟨0, rfl, by omega, Lib.hid (fun j x hj => by omega)⟩
  case round =>
    obtain ⟨k, rfl, hk, hno⟩ := hrel
    by_cases hlt : k < n
    · obtain ⟨x, hx⟩ : ∃ x, L[k]? = some x := ⟨_, List.getElem?_eq_getElem (by rw [en.out]; exact hlt)⟩
      obtain ⟨gv, off, rfl, d0, -⟩ := hvh.out.atO hx
      obtain ⟨xi, exi⟩ : ∃ z, x.i = z := ⟨_, rfl⟩
      rw [exi] at d0
      have hlt2 : (k : Int) < (n : Int) := by omega
      by_cases he : xi = i
      · have dd : (xi == i) = true := by simpa using he
        have fin : Hid (K = (k : Int)) := Lib.hid (by
          rcases hK.out with ⟨-, e2⟩ | ⟨k', e1, ⟨y, hy, ey⟩, e3⟩
          · exact absurd (exi.trans he) (e2 x (List.mem_of_getElem? hx))
          · rcases Nat.lt_trichotomy k' k with h | h | h
            · exact absurd ey (hno.out k' y h hy)
            · rw [e1, h]
            · exact absurd (exi.trans he) (e3 k x h hx))
        replace he := Lib.hid he
        replace hx := Lib.hid hx
        replace exi := Lib.hid exi
        clear hno hK
        go_wp2_with fail
        go_ret
        exact ⟨by rw [fin.out]; rfl, rfl⟩
      · have dd : (xi == i) = false := by simpa using he
        have hno2 : Hid (∀ j y, j < k + 1 → L[j]? = some y → y.i ≠ i) := Lib.hid (fun j y hj hy => by
          rcases Nat.lt_or_ge j k with h | h
          · exact hno.out j y h hy
          · have hjk : j = k := by omega
            subst hjk
            rw [hx] at hy
            injection hy with hy
            rw [← hy, exi]; exact he)
        replace he := Lib.hid he
        replace hx := Lib.hid hx
        replace exi := Lib.hid exi
        clear hno
        go_wp2_with fail
        go_round
        case rel => exact ⟨k + 1, by go_num, by omega, hno2⟩
        case measure => simp [intOf]; omega
    · obtain rfl : k = n := by omega
      have fin : Hid (K = -1) := Lib.hid (by
        rcases hK.out with ⟨e1, -⟩ | ⟨k', e1, ⟨y, hy, ey⟩, e3⟩
        · exact e1
        · have hl := (List.getElem?_eq_some_iff.1 hy).1
          rw [en.out] at hl
          exact absurd ey (hno.out k' y hl hy))
      clear hno hK
      go_wp2_with fail
      go_ret
      exact ⟨by rw [fin.out]; rfl, rfl⟩
theorem build_noROrder : ∀ W : World, (Instr.build 68 #[]).run Try.prog W = .ok (.agg #[.int .i64 0, .int .i64 0, .int .i64 0, .int .i64 0, .bool false]) W := fun W => by kernel_rfl
set_option maxRecDepth 100000 in
set_option maxHeartbeats 1000000 in
theorem RFind_any (B d : Nat) (v : Value) (L : List Or) (i : Int) (w : World) (hR : Hid (Rm B d v L w)) (hn : L.length ≤ 1000000) :
    Calls Try.prog 27 #[.pointer (some ⟨d, 0, none⟩), .int .i64 i] w fun e w' => e = .returned (.tuple #[(findO L i).1.val, .bool (findO L i).2]) ∧ Below w.heap.size w w' := by
  obtain ⟨g, eg⟩ : ∃ g, w.heap.size = g := ⟨_, rfl⟩
  obtain ⟨W0, eW0⟩ : ∃ W, w.alloc (.cells #[.int .i64 0, .int .i64 0, .int .i64 0, .int .i64 0, .bool false] 68) = W := ⟨_, rfl⟩
  have hg : W0.heap[g]? = some (.cells #[.int .i64 0, .int .i64 0, .int .i64 0, .int .i64 0, .bool false] 68 (0, 0)) := by rw [← eW0, ← eg]; exact heap_alloc_new w _
  have b0 : Below w.heap.size w W0 := by rw [← eW0]; exact (Below.refl _ w).alloc (Nat.le_refl _) _
  have hR0 := Lib.hid (hR.out.below b0)
  have hle : w.heap.size ≤ g := by omega
  have HI := Lib.hid (RFindI_any B d v L i W0 hR0 hn)
  have hbn := build_noROrder
  obtain ⟨⟨y0, y1, y2, y3, y4⟩, u0, u1, u2, u3, u4⟩ := row5 hg
  have fin : Hid (∀ x : Or, (((((W0.setCell ⟨g, 0, none⟩ (.int .i64 x.i)).setCell ⟨g, 1, none⟩ (.int .i64 x.s)).setCell ⟨g, 2, none⟩ (.int .i64 x.p)).setCell ⟨g, 3, none⟩ (.int .i64 x.n)).setCell ⟨g, 4, none⟩ (.bool x.t)).heap[g]? = some (.cells x.cells 68 (0, 0)) ∧
      Below w.heap.size w (((((W0.setCell ⟨g, 0, none⟩ (.int .i64 x.i)).setCell ⟨g, 1, none⟩ (.int .i64 x.s)).setCell ⟨g, 2, none⟩ (.int .i64 x.p)).setCell ⟨g, 3, none⟩ (.int .i64 x.n)).setCell ⟨g, 4, none⟩ (.bool x.t))) := Lib.hid (fun x =>
    ⟨set5 _ _ _ _ _ hg, ((((b0.setCell (p := ⟨g, 0, none⟩) hle _).setCell (p := ⟨g, 1, none⟩) hle _).setCell (p := ⟨g, 2, none⟩) hle _).setCell (p := ⟨g, 3, none⟩) hle _).setCell (p := ⟨g, 4, none⟩) hle _⟩)
  obtain ⟨P, eP⟩ : ∃ P, findO L i = P := ⟨_, rfl⟩
  rw [eP]
  replace eW0 := Lib.hid eW0
  replace eg := Lib.hid eg
  clear b0 hg
  rcases idxO_cases L i with ⟨e1, e2, -⟩ | ⟨A', x, C, e2, e3, -, -, e5⟩
  · have hP : Hid (P = (zeroO, false)) := Lib.hid (by rw [← eP]; unfold findO; rw [e2])
    rw [e1] at HI
    have fz := Lib.hid (fin.out zeroO)
    clear eP e1 e2 fin
    simp only [zeroO] at fz
    go_enter Try.func27, Try.ntmps27
    go_upto_region 1 with (fail)
    rw [eW0.out, eg.out]
    go_wp2_with fail
    refine HI.out.mono ?_
    rintro e w1 ⟨rfl, rfl⟩
    go_wp2_with fail
    refine bodyPost_ret (results_cell_row_tmp rfl _ _ g 68 _ (0, 0) _ rfl fz.out.1 rfl rfl rfl) rfl ?_
    rw [hP.out]
    exact ⟨rfl, fz.out.2⟩
  · have hP : Hid (P = (x, true)) := Lib.hid (by rw [← eP]; unfold findO; rw [e2])
    rw [e5] at HI
    obtain ⟨k, ek⟩ : ∃ k, A'.length = k := ⟨_, rfl⟩
    rw [ek] at HI
    have hx : L[k]? = some x := by rw [e3, ← ek]; simp
    obtain ⟨c0, -⟩ := hR0.out.cell
    obtain ⟨A, cap, ev, hv, h1, h2, -, -⟩ := hR0.out.own.slice
    obtain ⟨n, en⟩ : ∃ n, L.length = n := ⟨_, rfl⟩
    have hkn : k < n := by rw [← en]; exact (List.getElem?_eq_some_iff.1 hx).1
    rw [ev, en] at c0
    rw [en] at hn h1
    obtain ⟨gv, off, eA, d0, d1, d2, d3, d4⟩ := hv.atO hx
    subst eA
    have fz := Lib.hid (fin.out x)
    have k0 : ¬ (k : Int) < 0 := by omega
    obtain ⟨xi, xs, xp, xn, xt⟩ := x
    simp only at d0 d1 d2 d3 d4 fz
    clear eP e2 e3 e5 fin ek hx ev en hv
    go_enter Try.func27, Try.ntmps27
    go_upto_region 1 with (fail)
    rw [eW0.out, eg.out]
    go_wp2_with fail
    refine HI.out.mono ?_
    rintro e w1 ⟨rfl, rfl⟩
    go_wp2_with fail
    refine bodyPost_ret (results_cell_row_tmp rfl _ _ g 68 _ (0, 0) _ rfl fz.out.1 rfl rfl rfl) rfl ?_
    rw [hP.out]
    exact ⟨rfl, fz.out.2⟩
end Go.Proofs.Ytlknlicokacoiaa
