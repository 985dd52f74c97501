/-
  What came in, opened: a list of asks; Within, of the book.
-/
import Derived.Test.YtlknlicokacoiaaBkTop
import Derived.Test.YtlknlicokacoiaaRows
import Derived.ProofKit
import Derived.OpenShut
import Derived.Deep.Slices
import Derived.Deep.Fields
import Derived.Deep.Strs
namespace Go.Proofs.Ytlknlicokacoiaa
open Go.ChangeShapes Go.WideShapes Go.ChangeAt Go.RowKit Go.Deep
set_option linter.unusedVariables false
set_option linter.constructorNameAsVariable false
set_option linter.unusedSimpArgs false

structure Ask where
  (k s i p n : Int)
structure Ask.Ok (x : Ask) : Prop where
  k : I64 x.k
  s : I64 x.s
  i : I64 x.i
  p : I64 x.p
  n : I64 x.n
def Ask.row (x : Ask) : List Value := [.int .i64 x.k, .int .i64 x.s, .int .i64 x.i, .int .i64 x.p, .int .i64 x.n]
def Ask.val (x : Ask) : Value := .agg #[.int .i64 x.k, .int .i64 x.s, .int .i64 x.i, .int .i64 x.p, .int .i64 x.n]
instance : Inhabited Ask := ⟨⟨0, 0, 0, 0, 0⟩⟩
/-- The slice of this address and length holds these asks. -/
def HK (w : World) (A : Option Addr) (n : Nat) (L : List Ask) : Prop :=
  L.length = n ∧ ∀ j x, L[j]? = some x → ∃ b off, A = some ⟨b, off, none⟩ ∧ w.cell? ⟨b, off + j * 5, none⟩ = some (.int .i64 x.k) ∧ w.cell? ⟨b, off + j * 5 + 1, none⟩ = some (.int .i64 x.s) ∧ w.cell? ⟨b, off + j * 5 + 2, none⟩ = some (.int .i64 x.i) ∧ w.cell? ⟨b, off + j * 5 + 3, none⟩ = some (.int .i64 x.p) ∧ w.cell? ⟨b, off + j * 5 + 4, none⟩ = some (.int .i64 x.n)
theorem HK.below {w w' : World} {A : Option Addr} {n : Nat} {L : List Ask} (h : HK w A n L) (hb : Below w.heap.size w w') : HK w' A n L := by
  refine ⟨h.1, fun j x hx => ?_⟩
  obtain ⟨b, off, e, c0, c1, c2, c3, c4⟩ := h.2 j x hx
  have keep : ∀ {p : Addr} {v : Value}, w.cell? p = some v → w'.cell? p = some v := fun {p v} hc => (hb.cell (p := p) (World.block_lt_of_cell? w _ hc)).trans hc
  exact ⟨b, off, e, keep c0, keep c1, keep c2, keep c3, keep c4⟩
theorem HK.belowB {B : Nat} {w w' : World} {A : Option Addr} {n : Nat} {L : List Ask} (h : HK w A n L) (hA : ∀ ad, A = some ad → ad.block < B) (hb : Below B w w') : HK w' A n L := by
  refine ⟨h.1, fun j x hx => ?_⟩
  obtain ⟨b, off, e, c0, c1, c2, c3, c4⟩ := h.2 j x hx
  have keep : ∀ {o : Nat} {v : Value}, w.cell? ⟨b, o, none⟩ = some v → w'.cell? ⟨b, o, none⟩ = some v := fun {o v} hc => (hb.cell (p := ⟨b, o, none⟩) (show b < B from hA _ e)).trans hc
  exact ⟨b, off, e, keep c0, keep c1, keep c2, keep c3, keep c4⟩
def OkK (L : List Ask) : Prop := ∀ x ∈ L, x.Ok
theorem ask_cells : Try.prog.cellsOf 29 = 5 := by kernel_rfl
theorem cells_int1 : Try.prog.cellsOf 3 = 1 := by kernel_rfl
theorem cells_long1 : Try.prog.cellsOf 2 = 1 := by kernel_rfl
theorem cells_bool1 : Try.prog.cellsOf 4 = 1 := by kernel_rfl
section
variable {H : Type} {enc : TypeId × Value → H}
theorem bounds_of {x : Int} (h : (Lit.int .i64 x).wf = true) : I64 x := by
  have := bounds_i64 h
  exact ⟨by omega, by omega⟩
theorem open_num {W : World} {t : TypeId} {fuel : Nat} {v : Value} {y : DataW H × List MemPlace} (ht : Try.prog.underlying t = some (.int .i64)) (hf : DataW.trod enc Try.prog W 0 (fun _ => true) true fuel t [v] = some y) : ∃ x, v = .int .i64 x ∧ I64 x := by
  obtain ⟨q, e, _, w1⟩ := DataW.trod_int ht hf
  simp only [List.cons.injEq, and_true] at e
  exact ⟨q, e, bounds_of w1⟩
set_option maxRecDepth 100000 in
theorem open_cells5 {W : World} {fuel : Nat} {cs : List Value} {x : DataW H × List MemPlace} (h : DataW.trod enc Try.prog W 0 (fun _ => true) true fuel 29 cs = some x) : ∃ r : Ask, cs = r.row ∧ r.Ok := by
  obtain ⟨xs, n, _, _, hlen, hxs, hg⟩ := DataW.trod_struct Try.underlying29 h
  rw [ask_cells] at hlen
  match cs, hlen, xs, hxs with
  | [c0, c1, c2, c3, c4], _, [y0, y1, y2, y3, y4], _ =>
    have g0 := hg 0 _ rfl
    simp only [cells_int1, cells_long1, List.drop, List.take, List.getElem?_cons_zero, List.getElem?_cons_succ] at g0
    obtain ⟨k, rfl, b0⟩ := open_num Try.underlying3 g0
    have g1 := hg 1 _ rfl
    simp only [cells_int1, cells_long1, List.drop, List.take, List.getElem?_cons_zero, List.getElem?_cons_succ] at g1
    obtain ⟨s, rfl, b1⟩ := open_num Try.underlying3 g1
    have g2 := hg 2 _ rfl
    simp only [cells_int1, cells_long1, List.drop, List.take, List.getElem?_cons_zero, List.getElem?_cons_succ] at g2
    obtain ⟨i, rfl, b2⟩ := open_num Try.underlying2 g2
    have g3 := hg 3 _ rfl
    simp only [cells_int1, cells_long1, List.drop, List.take, List.getElem?_cons_zero, List.getElem?_cons_succ] at g3
    obtain ⟨p, rfl, b3⟩ := open_num Try.underlying2 g3
    have g4 := hg 4 _ rfl
    simp only [cells_int1, cells_long1, List.drop, List.take, List.getElem?_cons_zero, List.getElem?_cons_succ] at g4
    obtain ⟨n, e4, b4⟩ := open_num Try.underlying2 g4
    subst e4
    exact ⟨⟨k, s, i, p, n⟩, rfl, ⟨b0, b1, b2, b3, b4⟩⟩
theorem open_asks {W : World} {a : Option Addr} {len cap : Nat} {d : DataW H} {p : List MemPlace} (h : DataW.Trod enc Try.prog W 0 (fun _ => true) true 30 (.slice a len cap) d p) :
    ∃ L, HK W a len L ∧ OkK L ∧ len ≤ cap ∧ cap ≤ 9223372036854775807 := by
  obtain ⟨fuel, hf⟩ := h
  rcases open_slice Try.underlying30 hf with ⟨hcs, _⟩ | ⟨x, l, c, m, n, D, Pl, hcs, _, hl, hm, hmm, _, hx⟩
  · simp [Value.cells] at hcs
    obtain ⟨rfl, rfl, rfl⟩ := hcs
    exact ⟨[], ⟨rfl, fun j x hx => by simp at hx⟩, (fun r hr => by cases hr), Nat.le_refl _, by omega⟩
  · simp [Value.cells] at hcs
    obtain ⟨rfl, rfl, rfl⟩ := hcs
    simp only [if_true] at hmm
    unfold maxLen at hm
    have each : ∀ i, i < len → ∃ r : Ask, r.Ok ∧ ∀ j, j < 5 → W.cell? (x.add (i * 5 + j)) = r.row[j]? := by
      intro i hi
      obtain ⟨cs', h1, h2⟩ := hx i (by omega)
      rw [ask_cells] at h1
      obtain ⟨_, hlen, hcell⟩ := World.cells?_some h1
      obtain ⟨r, rfl, hO⟩ := open_cells5 h2
      refine ⟨r, hO, fun j hj => ?_⟩
      have := hcell j hj
      rw [add_add] at this
      exact this
    obtain ⟨q, hq⟩ := choose_lt each
    refine ⟨(List.range len).map q, ⟨by simp, fun i y hy => ?_⟩, ?_, hl, hm⟩
    · have hi : i < len := by have := (List.getElem?_eq_some_iff.1 hy).1; simpa using this
      have hy2 : y = q i := by
        rw [List.getElem?_map, List.getElem?_range hi] at hy
        simpa using hy.symm
      subst hy2
      obtain ⟨hO, hc⟩ := hq i hi
      obtain ⟨b, off, spot⟩ := x
      have hs : spot = none := by simpa [Addr.add] using World.cell?_spot ((hq 0 (by omega)).2 0 (by omega))
      subst hs
      have each : ∀ j, j < 5 → W.cell? ⟨b, off + i * 5 + j, none⟩ = (q i).row[j]? := fun j hj => by
        have := hc j hj
        rw [WideShapes.add_plain] at this
        rw [Nat.add_assoc]
        exact this
      exact ⟨b, off, rfl, each 0 (by omega), each 1 (by omega), each 2 (by omega), each 3 (by omega), each 4 (by omega)⟩
    · intro r hr
      obtain ⟨i, hi, rfl⟩ := List.mem_map.1 hr
      exact (hq i (List.mem_range.1 hi)).1
theorem slice_at {W : World} {b : Nat} {t e : TypeId} {A : Option Addr} {n c : Nat} (ht : Try.prog.underlying t = some (.slice e)) (h : Value.okWide Try.prog W .any b t (.slice A n c)) : ∀ ad, A = some ad → ad.block < W.heap.size ∧ ad.spot = none := by
  rintro ad rfl
  simp only [Value.okWide, ht, Cell.okWide, Cell.ok] at h
  obtain ⟨_, _, _, hs, row, cells, hrow, _⟩ := h
  refine ⟨?_, hs⟩
  unfold World.shape? at hrow
  rcases Nat.lt_or_ge ad.block W.heap.size with hlt | hge
  · exact hlt
  · rw [Array.getElem?_eq_none hge] at hrow
    simp at hrow
end
/-- A number brought into 0 .. m. -/
def withinN (n : Int) (m : Nat) : Nat := (n % ((m : Int) + 1)).toNat
theorem withinN_le (n : Int) (m : Nat) : withinN n m ≤ m := by
  have := Int.emod_lt_of_pos n (show (0 : Int) < (m : Int) + 1 by omega)
  unfold withinN; omega
theorem withinN_pos {n : Int} {m : Nat} (h : 0 ≤ n) : ((withinN n m : Nat) : Int) = n % ((m : Int) + 1) := by
  have := Int.emod_nonneg n (show (m : Int) + 1 ≠ 0 by omega)
  unfold withinN; omega

set_option maxRecDepth 100000 in
theorem Within_pos (n : Int) (m : Nat) (w : World) (hm : m ≤ 140737488355328) (h0 : 0 ≤ n) (h1 : n ≤ 9223372036854775807) :
    Calls Try.prog 16 #[.int .i64 n, .int .i64 0, .int .i64 m] w fun e w' => e = .returned (.int .i64 (withinN n m)) ∧ w' = w := by
  have hj := withinN_pos (m := m) h0
  have hb := withinN_le n m
  obtain ⟨j, ej⟩ : ∃ j, withinN n m = j := ⟨_, rfl⟩
  rw [ej] at hj hb ⊢
  have hj2 := hj.symm
  clear ej hj
  go_enter Try.func16, Try.ntmps16
  go_wp2
  go_ret
  exact ⟨rfl, rfl⟩
theorem tmod_neg {n : Int} {m : Nat} (h : n < 0) : ∃ a : Nat, n.tmod ((m : Int) + 1) = -(a : Int) ∧ ((a = 0 ∧ withinN n m = 0) ∨ (0 < a ∧ a ≤ m ∧ ((withinN n m : Nat) : Int) = -(a : Int) + (m : Int) + 1)) := by
  have e1 : n.tmod ((m : Int) + 1) = -((-n) % ((m : Int) + 1)) := by
    rw [← Int.tmod_eq_emod_of_nonneg (by omega : 0 ≤ -n), Int.neg_tmod]; omega
  have e2 := Int.emod_nonneg (-n) (show (m : Int) + 1 ≠ 0 by omega)
  have e3 := Int.emod_lt_of_pos (-n) (show (0 : Int) < (m : Int) + 1 by omega)
  have f2 := Int.emod_nonneg n (show (m : Int) + 1 ≠ 0 by omega)
  have f3 := Int.emod_lt_of_pos n (show (0 : Int) < (m : Int) + 1 by omega)
  have d1 := Int.emod_add_mul_ediv (-n) ((m : Int) + 1)
  have d2 := Int.emod_add_mul_ediv n ((m : Int) + 1)
  refine ⟨((-n) % ((m : Int) + 1)).toNat, by rw [e1]; omega, ?_⟩
  have hs : (n % ((m : Int) + 1) + (-n) % ((m : Int) + 1)) = 0 ∨ (n % ((m : Int) + 1) + (-n) % ((m : Int) + 1)) = (m : Int) + 1 := by
    generalize hx : n % ((m : Int) + 1) = x at *
    generalize hy : (-n) % ((m : Int) + 1) = y at *
    generalize hp : n / ((m : Int) + 1) = p at *
    generalize hq : (-n) / ((m : Int) + 1) = q at *
    have hsum : x + y = -(((m : Int) + 1) * (p + q)) := by rw [Int.mul_add]; omega
    have h1 : x + y < 2 * ((m : Int) + 1) := by omega
    rcases Int.lt_trichotomy (p + q) 0 with h4 | h4 | h4
    · rcases (show p + q < -1 ∨ -1 ≤ p + q by omega) with h5 | h5
      · exfalso
        have := Int.mul_le_mul_of_nonneg_left (show p + q ≤ -2 by omega) (show (0 : Int) ≤ (m : Int) + 1 by omega)
        omega
      · have : p + q = -1 := by omega
        rw [this] at hsum
        right; omega
    · rw [h4] at hsum; left; omega
    · exfalso
      have := Int.mul_le_mul_of_nonneg_left (show 1 ≤ p + q by omega) (show (0 : Int) ≤ (m : Int) + 1 by omega)
      omega
  unfold withinN
  omega
set_option maxRecDepth 100000 in
theorem Within_neg (n : Int) (m : Nat) (w : World) (hm : m ≤ 140737488355328) (h0 : n < 0) (h1 : -9223372036854775808 ≤ n) :
    Calls Try.prog 16 #[.int .i64 n, .int .i64 0, .int .i64 m] w fun e w' => e = .returned (.int .i64 (withinN n m)) ∧ w' = w := by
  have hb := withinN_le n m
  obtain ⟨a, ea, hc⟩ := tmod_neg (m := m) h0
  obtain ⟨j, ej⟩ : ∃ j, withinN n m = j := ⟨_, rfl⟩
  rw [ej] at hc hb ⊢
  clear ej
  rcases hc with ⟨rfl, rfl⟩ | ⟨ha, ham, hj⟩
  · go_enter Try.func16, Try.ntmps16
    go_wp2
    go_ret
    exact ⟨rfl, rfl⟩
  · have Hj := Lib.hid hj
    have hd : decide (-(a : Int) < 0) = true := decide_eq_true (by omega)
    clear hj hb
    go_enter Try.func16, Try.ntmps16
    go_wp2
    go_ret
    exact ⟨by rw [Hj.out]; rfl, rfl⟩
theorem Within_any (n : Int) (m : Nat) (w : World) (hm : m ≤ 140737488355328) (h1 : -9223372036854775808 ≤ n) (h2 : n ≤ 9223372036854775807) :
    Calls Try.prog 16 #[.int .i64 n, .int .i64 0, .int .i64 m] w fun e w' => e = .returned (.int .i64 (withinN n m)) ∧ w' = w := by
  by_cases h : 0 ≤ n
  · exact Within_pos n m w hm h h2
  · exact Within_neg n m w hm (by omega) h1

end Go.Proofs.Ytlknlicokacoiaa
