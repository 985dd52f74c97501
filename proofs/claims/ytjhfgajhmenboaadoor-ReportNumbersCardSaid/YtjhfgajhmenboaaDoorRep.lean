/-
  A report as a value, and as bytes; a block that holds one.
-/
import Derived.Test.YtjhfgajhmenboaaDoorWriter
import Derived.Test.YtjhfgajhmenboaaDoorNewReader
import Derived.Test.YtjhfgajhmenboaaDoorReader2
import Derived.Test.YtjhfgajhmenboaaDoorRefReader3
import Derived.Test.YtjhfgajhmenboaaDoorRefLong
import Derived.Test.YtjhfgajhmenboaaDoorRoomy
import Derived.Test.YtjhfgajhmenboaaDoorTexts
import Derived.Laws.StructEq
import Derived.Deep.QuietTactic
import Derived.Deep.Cut
import Derived.BigQuiet
import Derived.Deep.RegionHeld3
namespace Go.Proofs.YtjhfgajhmenboaaDoor
open Go.RowKit
set_option linter.unusedVariables false
set_option linter.unusedSimpArgs false

def I64 (x : Int) : Prop := -9223372036854775808 ≤ x ∧ x ≤ 9223372036854775807
/-- A report: kind, ID, instrument, side, price, quantity, what is left, why. -/
structure Q where
  k : Int
  i : Int
  n : Int
  s : Int
  p : Int
  q : Int
  l : Int
  y : Int
def Q.cells (r : Q) : Array Value := #[.int .i64 r.k, .int .i64 r.i, .int .i64 r.n, .int .i64 r.s, .int .i64 r.p, .int .i64 r.q, .int .i64 r.l, .int .i64 r.y]
def Q.val (r : Q) : Value := .agg r.cells
structure Q.Ok (r : Q) : Prop where
  k : I64 r.k
  i : I64 r.i
  n : I64 r.n
  s : I64 r.s
  p : I64 r.p
  q : I64 r.q
  l : I64 r.l
  y : I64 r.y
/-- Is it right: kind, instrument, side and why in their bounds? -/
def Q.Right (r : Q) : Prop := (1 ≤ r.k ∧ r.k ≤ 5) ∧ (0 ≤ r.n ∧ r.n ≤ 255) ∧ (0 ≤ r.s ∧ r.s ≤ 2) ∧ (0 ≤ r.y ∧ r.y ≤ 255)
instance (r : Q) : Decidable r.Right := by unfold Q.Right; exact inferInstance
def zeroQ : Q := ⟨0, 0, 0, 0, 0, 0, 0, 0⟩
/-- A right report's bytes. -/
def encQ (r : Q) : List UInt8 := [] ++ [byteOf r.k] ++ longL r.i ++ [byteOf r.n] ++ [byteOf r.s] ++ longL r.p ++ longL r.q ++ longL r.l ++ [byteOf r.y]
/-- What Encode answers. -/
def encR (r : Q) : List UInt8 := if r.Right then encQ r else []
def encE (r : Q) : Nat := if r.Right then 0 else 12
theorem encR_yes {r : Q} (h : r.Right) : encR r = encQ r := if_pos h
theorem encR_no {r : Q} (h : ¬ r.Right) : encR r = [] := if_neg h
theorem encE_yes {r : Q} (h : r.Right) : encE r = 0 := if_pos h
theorem encE_no {r : Q} (h : ¬ r.Right) : encE r = 12 := if_neg h
theorem encQ_len (r : Q) : (encQ r).length = 36 := by
  unfold encQ
  simp only [List.length_append, List.length_nil, longL_len, List.length_singleton]
theorem encR_len (r : Q) : (encR r).length ≤ 36 := by
  unfold encR; split
  · rw [encQ_len]; exact Nat.le_refl _
  · exact Nat.zero_le _
/-- The eight cells of a block that holds a report. -/
theorem rep_at {W : World} {b : Nat} {k i n s p q l y : Int} (h : W.heap[b]? = some (.cells #[.int .i64 k, .int .i64 i, .int .i64 n, .int .i64 s, .int .i64 p, .int .i64 q, .int .i64 l, .int .i64 y] 25 (0, 0))) :
    W.cell? ⟨b, 0, none⟩ = some (.int .i64 k) ∧ W.cell? ⟨b, 1, none⟩ = some (.int .i64 i) ∧ W.cell? ⟨b, 2, none⟩ = some (.int .i64 n) ∧ W.cell? ⟨b, 3, none⟩ = some (.int .i64 s) ∧ W.cell? ⟨b, 4, none⟩ = some (.int .i64 p) ∧ W.cell? ⟨b, 5, none⟩ = some (.int .i64 q) ∧ W.cell? ⟨b, 6, none⟩ = some (.int .i64 l) ∧ W.cell? ⟨b, 7, none⟩ = some (.int .i64 y) := by
  refine ⟨?_, ?_, ?_, ?_, ?_, ?_, ?_, ?_⟩ <;> (rw [Lib.cell_of_heap h]; rfl)
/-- The block of a box, behind a call that turns nothing that was. -/
theorem boxed {w W : World} {cs : Array Value} {T : TypeId} (h : Below (w.alloc (.cells cs T)).heap.size (w.alloc (.cells cs T)) W) : W.heap[w.heap.size]? = some (.cells cs T (0, 0)) :=
  (h.block w.heap.size (by simp)).trans (heap_alloc_new w _)
theorem boxed_below {w W : World} {o : Obj} (h : Below (w.alloc o).heap.size (w.alloc o) W) : Below w.heap.size w W :=
  ((Below.refl _ w).alloc (Nat.le_refl _) o).trans (h.mono (by simp))
theorem set8 {w : World} {g : Nat} {T : TypeId} {x0 x1 x2 x3 x4 x5 x6 x7 : Value} (v0 v1 v2 v3 v4 v5 v6 v7 : Value) (h : w.heap[g]? = some (.cells #[x0, x1, x2, x3, x4, x5, x6, x7] T (0, 0))) :
    ((((((((w.setCell ⟨g, 0, none⟩ v0).setCell ⟨g, 1, none⟩ v1).setCell ⟨g, 2, none⟩ v2).setCell ⟨g, 3, none⟩ v3).setCell ⟨g, 4, none⟩ v4).setCell ⟨g, 5, none⟩ v5).setCell ⟨g, 6, none⟩ v6).setCell ⟨g, 7, none⟩ v7) = w.setRow g #[v0, v1, v2, v3, v4, v5, v6, v7] := by
  have s1 : (w.setCell ⟨g, 0, none⟩ v0) = w.setRow g #[v0, x1, x2, x3, x4, x5, x6, x7] := by
    rw [setCell_eq_setRow w g 0 _ T (0, 0) v0 h]; rfl
  have s2 : ((w.setCell ⟨g, 0, none⟩ v0).setCell ⟨g, 1, none⟩ v1) = w.setRow g #[v0, v1, x2, x3, x4, x5, x6, x7] := by
    rw [s1, setCell_eq_setRow _ g 1 _ T (0, 0) v1 (setRow_heap w g _ #[v0, x1, x2, x3, x4, x5, x6, x7] T (0, 0) h), setRow_setRow]; rfl
  have s3 : (((w.setCell ⟨g, 0, none⟩ v0).setCell ⟨g, 1, none⟩ v1).setCell ⟨g, 2, none⟩ v2) = w.setRow g #[v0, v1, v2, x3, x4, x5, x6, x7] := by
    rw [s2, setCell_eq_setRow _ g 2 _ T (0, 0) v2 (setRow_heap w g _ #[v0, v1, x2, x3, x4, x5, x6, x7] T (0, 0) h), setRow_setRow]; rfl
  have s4 : ((((w.setCell ⟨g, 0, none⟩ v0).setCell ⟨g, 1, none⟩ v1).setCell ⟨g, 2, none⟩ v2).setCell ⟨g, 3, none⟩ v3) = w.setRow g #[v0, v1, v2, v3, x4, x5, x6, x7] := by
    rw [s3, setCell_eq_setRow _ g 3 _ T (0, 0) v3 (setRow_heap w g _ #[v0, v1, v2, x3, x4, x5, x6, x7] T (0, 0) h), setRow_setRow]; rfl
  have s5 : (((((w.setCell ⟨g, 0, none⟩ v0).setCell ⟨g, 1, none⟩ v1).setCell ⟨g, 2, none⟩ v2).setCell ⟨g, 3, none⟩ v3).setCell ⟨g, 4, none⟩ v4) = w.setRow g #[v0, v1, v2, v3, v4, x5, x6, x7] := by
    rw [s4, setCell_eq_setRow _ g 4 _ T (0, 0) v4 (setRow_heap w g _ #[v0, v1, v2, v3, x4, x5, x6, x7] T (0, 0) h), setRow_setRow]; rfl
  have s6 : ((((((w.setCell ⟨g, 0, none⟩ v0).setCell ⟨g, 1, none⟩ v1).setCell ⟨g, 2, none⟩ v2).setCell ⟨g, 3, none⟩ v3).setCell ⟨g, 4, none⟩ v4).setCell ⟨g, 5, none⟩ v5) = w.setRow g #[v0, v1, v2, v3, v4, v5, x6, x7] := by
    rw [s5, setCell_eq_setRow _ g 5 _ T (0, 0) v5 (setRow_heap w g _ #[v0, v1, v2, v3, v4, x5, x6, x7] T (0, 0) h), setRow_setRow]; rfl
  have s7 : (((((((w.setCell ⟨g, 0, none⟩ v0).setCell ⟨g, 1, none⟩ v1).setCell ⟨g, 2, none⟩ v2).setCell ⟨g, 3, none⟩ v3).setCell ⟨g, 4, none⟩ v4).setCell ⟨g, 5, none⟩ v5).setCell ⟨g, 6, none⟩ v6) = w.setRow g #[v0, v1, v2, v3, v4, v5, v6, x7] := by
    rw [s6, setCell_eq_setRow _ g 6 _ T (0, 0) v6 (setRow_heap w g _ #[v0, v1, v2, v3, v4, v5, x6, x7] T (0, 0) h), setRow_setRow]; rfl
  have s8 : ((((((((w.setCell ⟨g, 0, none⟩ v0).setCell ⟨g, 1, none⟩ v1).setCell ⟨g, 2, none⟩ v2).setCell ⟨g, 3, none⟩ v3).setCell ⟨g, 4, none⟩ v4).setCell ⟨g, 5, none⟩ v5).setCell ⟨g, 6, none⟩ v6).setCell ⟨g, 7, none⟩ v7) = w.setRow g #[v0, v1, v2, v3, v4, v5, v6, v7] := by
    rw [s7, setCell_eq_setRow _ g 7 _ T (0, 0) v7 (setRow_heap w g _ #[v0, v1, v2, v3, v4, v5, v6, x7] T (0, 0) h), setRow_setRow]; rfl
  exact s8
theorem block8 {w : World} {g : Nat} {T : TypeId} {x0 x1 x2 x3 x4 x5 x6 x7 : Value} (h : w.heap[g]? = some (.cells #[x0, x1, x2, x3, x4, x5, x6, x7] T (0, 0))) :
    w.frozen? ⟨g, 0, none⟩ = false ∧ w.frozen? ⟨g, 1, none⟩ = false ∧ w.frozen? ⟨g, 2, none⟩ = false ∧ w.frozen? ⟨g, 3, none⟩ = false ∧ w.frozen? ⟨g, 4, none⟩ = false ∧ w.frozen? ⟨g, 5, none⟩ = false ∧ w.frozen? ⟨g, 6, none⟩ = false ∧ w.frozen? ⟨g, 7, none⟩ = false ∧ w.cell? ⟨g, 0, none⟩ = some x0 ∧ w.cell? ⟨g, 1, none⟩ = some x1 ∧ w.cell? ⟨g, 2, none⟩ = some x2 ∧ w.cell? ⟨g, 3, none⟩ = some x3 ∧ w.cell? ⟨g, 4, none⟩ = some x4 ∧ w.cell? ⟨g, 5, none⟩ = some x5 ∧ w.cell? ⟨g, 6, none⟩ = some x6 ∧ w.cell? ⟨g, 7, none⟩ = some x7 := by
  refine ⟨Lib.frozen_of_heap h 0, Lib.frozen_of_heap h 1, Lib.frozen_of_heap h 2, Lib.frozen_of_heap h 3, Lib.frozen_of_heap h 4, Lib.frozen_of_heap h 5, Lib.frozen_of_heap h 6, Lib.frozen_of_heap h 7, ?_, ?_, ?_, ?_, ?_, ?_, ?_, ?_⟩ <;> (rw [Lib.cell_of_heap h]; rfl)
theorem results_cell_row_tmp {P : Program} {fn : Func} {p u : Tmp} {ty : TypeId} (h : fn.results = #[.cell p ty, .tmp u]) (tmps : Array Value) (w : World) (g : Nat) (t : TypeId) (cs : Array Value) (fr : Nat × Nat) (d : TypeDesc)
    (hp : tmps.getD p undef = .pointer (some ⟨g, 0, none⟩)) (hg : w.heap[g]? = some (.cells cs t fr))
    (hu : P.underlying ty = some d) (hd : (match d with | .struct _ | .array _ _ => true | _ => false) = true) (hi : (P.info? ty).map (·.size) = some cs.size) :
    (results fn tmps).run P w = .ok (.tuple #[.agg cs, tmps.getD u undef]) w := by
  rw [results_cell_tmp h, hp]
  simp [asAddr, run_loadVar_row w g t ty cs fr d hg hu hd hi, Result.andThen]
theorem alloc_only (w : World) (o : Obj) : Only (fun _ => False) w (w.alloc o) := only_below ((Below.refl _ w).alloc (Nat.le_refl _) o)
theorem boxed_at {w W : World} {cs : Array Value} {T : TypeId} {c B : Nat} {v : Value} {xs : List UInt8} (h : Wr c B v xs w) (ho : Only (wp c v) (w.alloc (.cells cs T)) W) : W.heap[w.heap.size]? = some (.cells cs T (0, 0)) := by
  refine (ho.block w.heap.size (by simp) ?_).trans (heap_alloc_new w _)
  rintro (e | e)
  · have := h.at'.lt; omega
  · have := (h.row.blk e.symm).2; omega
theorem wr_below {w1 w w' : World} {c B : Nat} {v : Value} {xs : List UInt8} (h : Wr c B v xs w) (hb : Below B w1 w) (ho : Only (wp c v) w w') : Below B w1 w' := by
  refine hb.trans (ho.below h.size (fun k hk e => ?_))
  rcases e with e | e
  · have := h.base; omega
  · have := (h.row.blk e.symm).1; omega
theorem only_box {w W : World} {o : Obj} {c : Nat} {v : Value} (h : Only (wp c v) (w.alloc o) W) : Only (wp c v) w W :=
  ((alloc_only w o).mono (fun _ _ e => e.elim)).step h (fun _ _ e => e)
theorem from_box {w : World} {o : Obj} {v v' : Value} (h : From (w.alloc o) v v') : From w v v' := by
  intro k hk
  rcases h k hk with e | e
  · exact .inl e
  · right
    have : (w.alloc o).heap.size = w.heap.size + 1 := by simp
    omega
theorem RefByteR (base : Nat) (v : Value) (xs : List UInt8) (x : Int) (w : World) (h : Hid (RB w base v xs)) (hl : xs.length ≤ 1000000) (x1 : -9223372036854775808 ≤ x) (x2 : x ≤ 9223372036854775807) :
    Calls Tryd.prog 29 #[v, .int .i64 x] w fun e w' => ∃ r, e = .returned r ∧ RB w' w.heap.size r (xs ++ [byteOf x]) ∧ Below w.heap.size w w' := by
  obtain ⟨A, cap, rfl, H, hA, _, _⟩ := h.out.holds
  exact RefByte_any A xs.length cap xs x w (by omega) hA (Lib.hid H) x1 x2
theorem RefLongR (base : Nat) (v : Value) (xs : List UInt8) (x : Int) (w : World) (h : Hid (RB w base v xs)) (hl : xs.length ≤ 1000000) (x1 : -9223372036854775808 ≤ x) (x2 : x ≤ 9223372036854775807) :
    Calls Tryd.prog 28 #[v, .int .i64 x] w fun e w' => ∃ r, e = .returned r ∧ RB w' w.heap.size r (xs ++ longL x) ∧ Below w.heap.size w w' := by
  obtain ⟨A, cap, rfl, H, hA, _, _⟩ := h.out.holds
  exact RefLong_any A xs.length cap xs x w (by omega) hA (Lib.hid H) x1 x2
theorem set_only (w : World) (b j : Nat) (v : Value) : Only (fun k => k = b) w (w.setCell ⟨b, j, none⟩ v) :=
  ⟨rfl, rfl, rfl, by simp, fun k _ hn => heap_setCell_other w ⟨b, j, none⟩ k v (fun e => hn (by first | exact e | exact e.symm))⟩
theorem setRow_only (w : World) (b : Nat) (cs : Array Value) : Only (fun k => k = b) w (w.setRow b cs) :=
  ⟨rfl, rfl, rfl, by simp, fun k _ hn => setRow_other w b k cs (fun e => hn e)⟩
/-- A reader in block c is left alone by whatever turns later blocks alone. -/
structure Keeps (R : Nat → Nat → World → Prop) (c : Nat) : Prop where
  keep : ∀ k y w w' p, R k y w → Only p w w' → (∀ j, p j → c < j) → R k y w'
  lt : ∀ k y w, R k y w → c < w.heap.size
theorem keeps_pr (c g : Nat) (l : List UInt8) (hg : g ≤ c) : Keeps (PR c g l) c :=
  ⟨fun k y w w' p h ho hp => h.only ho (fun e => by have := hp c e; omega) (fun e => by have := hp g e; omega), fun k y w h => h.lt⟩
theorem Rd.only {p : Nat → Prop} {c : Nat} {A : Option Addr} {n cap : Nat} {l : List UInt8} {k y : Nat} {w w' : World} (h : Rd c A n cap l k y w) (ho : Only p w w') (hc : ¬ p c) (hA : ∀ b off sp, A = some ⟨b, off, sp⟩ → ¬ p b) : Rd c A n cap l k y w' :=
  ⟨(ho.block c h.at'.lt hc).trans h.at', h.hb.only ho hA, h.far, h.kn, h.ncap, h.cmax, h.nmax, h.none0, h.plain⟩
theorem keeps_rd (c : Nat) (A : Option Addr) (n cap : Nat) (l : List UInt8) (hA : ∀ b off sp, A = some ⟨b, off, sp⟩ → b < c) : Keeps (fun k y w => Rd c A n cap l k y w) c :=
  ⟨fun k y w w' p h ho hp => Rd.only h ho (fun e => by have := hp c e; omega) (fun b off sp e e2 => by have := hp b e2; have := hA b off sp e; omega), fun k y w h => h.at'.lt⟩
/-- A slice of bytes, as a reader of the document needs it. -/
structure Src (w : World) (A : Option Addr) (n cap : Nat) (l : List UInt8) : Prop where
  hb : HB w A n l
  at' : ∀ ad, A = some ad → ad.block < w.heap.size ∧ ad.spot = none
  ncap : n ≤ cap
  cmax : cap ≤ 9223372036854775807
  nmax : n ≤ 140737488355328
  none0 : A = none → cap = 0
theorem Src.below {w w' : World} {A : Option Addr} {n cap : Nat} {l : List UInt8} (h : Src w A n cap l) (hb : Below w.heap.size w w') : Src w' A n cap l :=
  ⟨h.hb.below hb, fun ad e => ⟨Nat.lt_of_lt_of_le (h.at' ad e).1 hb.size, (h.at' ad e).2⟩, h.ncap, h.cmax, h.nmax, h.none0⟩
/-- A row of the call's own is such a slice. -/
theorem RB.src {w : World} {base : Nat} {v : Value} {l : List UInt8} (h : RB w base v l) (hl : l.length ≤ 140737488355328) : ∃ A n cap, v = .slice A n cap ∧ n = l.length ∧ Src w A n cap l := by
  obtain ⟨A, cap, rfl, H, hA, hc1, hc2⟩ := h.holds
  refine ⟨A, l.length, cap, rfl, rfl, H, ?_, hc2, by simp only [maxLen] at hc1; omega, hl, hA⟩
  intro ad e
  rcases h.2 with ⟨e1, e2⟩ | ⟨g, cap', cur, e1, hg, hcur, _⟩
  · injection e1 with e1 _ _; rw [e] at e1; cases e1
  · injection e1 with e1 _ _
    rw [e] at e1
    injection e1 with e1
    subst e1
    exact ⟨(Array.getElem?_eq_some_iff.1 hcur).1, rfl⟩
theorem src_nil (w : World) : Src w none 0 0 [] := ⟨hb_nil _ _, (fun ad e => by cases e), Nat.le_refl _, by omega, by omega, fun _ => rfl⟩
theorem num_le {l : List UInt8} {k y m : Nat} (h : y ≤ 1000) : (rdTake l k y m).2.2 ≤ 1000 := by
  rcases rdTake_num l k y m with e | e <;> omega
theorem Src.str {w : World} {A : Option Addr} {n cap : Nat} {l : List UInt8} (h : Src w A n cap l) : (convert 26 9 (.slice A n cap)).run Tryd.prog w = .ok (.string (str l)) w := by
  have e := h.hb.1
  subst e
  exact h.hb.string cap
theorem rb_keep {w w' : World} {base : Nat} {v : Value} {l : List UInt8} (h : RB w base v l) (hb : Below w.heap.size w w') : RB w' base v l := h.only (only_below hb) (fun _ _ e => e)
theorem Src.take {w : World} {A : Option Addr} {n cap : Nat} {l : List UInt8} (m : Nat) (hb : HB w A n l) (at' : ∀ ad, A = some ad → ad.block < w.heap.size ∧ ad.spot = none) (h1 : n ≤ cap) (h2 : cap ≤ 9223372036854775807) (h3 : A = none → cap = 0) (hm : m ≤ 1000000) : Src w A (min n m) cap (l.take m) := by
  refine ⟨?_, at', by omega, h2, by omega, h3⟩
  by_cases h : m ≤ n
  · rw [Nat.min_eq_right h]; exact hb.take h
  · rw [Nat.min_eq_left (by omega), List.take_of_length_le (by rw [hb.1]; omega)]; exact hb
theorem u8_xor_byte (a b : UInt8) : bits .xor .u8 (a.toNat : Int) (b.toNat : Int) = ((a ^^^ b).toNat : Int) := by
  rw [u8_xor_nat _ _ (by have := a.toNat_lt; omega) (by have := b.toNat_lt; omega), UInt8.toNat_xor]
end Go.Proofs.YtjhfgajhmenboaaDoor
