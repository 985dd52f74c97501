/-
  What is read of a command; a reading under way.
-/
import Derived.Test.YtdbaphmhfoajgaaCmdTwo
import Derived.Test.YtdbaphmhfoajgaaNewReader
import Derived.Test.YtdbaphmhfoajgaaReader2
import Derived.Test.YtdbaphmhfoajgaaRefReader3
namespace Go.Proofs.Ytdbaphmhfoajgaa
open Go.RowKit
set_option linter.unusedVariables false
set_option linter.unusedSimpArgs false

/-- What is read of a command, the place of each part. -/
def dI (l : List UInt8) (k y : Nat) := rdTake l k y 8
def dN (l : List UInt8) (k y : Nat) := rdTake l (dI l k y).2.1 (dI l k y).2.2 1
def dS (l : List UInt8) (k y : Nat) := rdTake l (dN l k y).2.1 (dN l k y).2.2 1
def dT (l : List UInt8) (k y : Nat) := rdTake l (dS l k y).2.1 (dS l k y).2.2 1
def dP (l : List UInt8) (k y : Nat) := rdTake l (dT l k y).2.1 (dT l k y).2.2 8
def dQ (l : List UInt8) (k y : Nat) := rdTake l (dP l k y).2.1 (dP l k y).2.2 8
def dL (l : List UInt8) (k y : Nat) := rdTake l (dQ l k y).2.1 (dQ l k y).2.2 8
def dX (l : List UInt8) (k y : Nat) := rdText l (dL l k y).2.1 (dL l k y).2.2
def eA (l : List UInt8) (k y : Nat) := rdTake l (dI l k y).2.1 (dI l k y).2.2 8
def eB (l : List UInt8) (k y : Nat) := rdTake l (eA l k y).2.1 (eA l k y).2.2 8
def readV (l : List UInt8) (k y : Nat) (z : Int) : C :=
  if z = 1 then ⟨1, wrap64 (numL (dI l k y).1), (headN (dN l k y).1 : Nat), (headN (dS l k y).1 : Nat), wrap64 (numL (dP l k y).1), wrap64 (numL (dQ l k y).1), wrap64 (numL (dL l k y).1), (headN (dT l k y).1 : Nat), (dX l k y).1⟩
  else if z = 2 then ⟨2, wrap64 (numL (dI l k y).1), 0, 0, 0, 0, 0, 0, []⟩
  else if z = 3 then ⟨3, wrap64 (numL (dI l k y).1), 0, 0, 0, wrap64 (numL (eA l k y).1), 0, 0, []⟩
  else ⟨4, wrap64 (numL (dI l k y).1), 0, 0, wrap64 (numL (eA l k y).1), wrap64 (numL (eB l k y).1), 0, 0, []⟩
def readP (l : List UInt8) (k y : Nat) (z : Int) : Nat × Nat :=
  if z = 1 then (dX l k y).2 else if z = 2 then (dI l k y).2 else if z = 3 then (eA l k y).2 else (eB l k y).2
/-- The Kind that is read, and the place behind it. -/
def kindZ (l : List UInt8) : Int := (headN (rdTake l 0 0 1).1 : Nat)
def kindP (l : List UInt8) : Nat × Nat := (rdTake l 0 0 1).2
def zeroC : C := ⟨0, 0, 0, 0, 0, 0, 0, 0, []⟩
/-- What Decode answers. -/
def bodyV (l : List UInt8) : C := readV l (kindP l).1 (kindP l).2 (kindZ l)
def bodyP (l : List UInt8) : Nat × Nat := readP l (kindP l).1 (kindP l).2 (kindZ l)
def decC (l : List UInt8) : C × Nat :=
  if kindZ l < 1 ∨ 4 < kindZ l then (zeroC, 31)
  else if rdEnd l (bodyP l).1 (bodyP l).2 ≠ 0 then (zeroC, 12)
  else if (bodyV l).right ≠ 0 then (zeroC, (bodyV l).right)
  else (bodyV l, 0)

theorem set_only (w : World) (b j : Nat) (v : Value) : Only (fun k => k = b) w (w.setCell ⟨b, j, none⟩ v) :=
  ⟨rfl, rfl, rfl, by simp, fun k _ hn => heap_setCell_other w ⟨b, j, none⟩ k v (fun e => hn (by first | exact e | exact e.symm))⟩
theorem setRow_only (w : World) (b : Nat) (cs : Array Value) : Only (fun k => k = b) w (w.setRow b cs) :=
  ⟨rfl, rfl, rfl, by simp, fun k _ hn => setRow_other w b k cs (fun e => hn e)⟩
/-- A reader in block c is left alone by whatever turns later blocks alone. -/
structure Keeps (R : Nat → Nat → World → Prop) (c : Nat) : Prop where
  keep : ∀ k y w w' p, R k y w → Only p w w' → (∀ j, p j → c < j) → R k y w'
  lt : ∀ k y w, R k y w → c < w.heap.size
/-- A reading under way: the result in block rb, the command in block cb. -/
structure RS (R : Nat → Nat → World → Prop) (c rb cb k y : Nat) (cs : Array Value) (w0 w : World) : Prop where
  rd : R k y w
  res : w.heap[rb]? = some (.cells #[.int .i64 0, .int .i64 0, .int .i64 0, .int .i64 0, .int .i64 0, .int .i64 0, .int .i64 0, .int .i64 0, .string (str [])] 23 (0, 0))
  cmd : w.heap[cb]? = some (.cells cs 23 (0, 0))
  only : Only (fun b => b = c) w0 w
  nrc : rb ≠ c
  ccb : c < cb
  ne : rb ≠ cb
  rw0 : w0.heap.size ≤ rb
  cw0 : w0.heap.size ≤ cb
theorem RS.read {R : Nat → Nat → World → Prop} {c rb cb k y k' y' : Nat} {cs : Array Value} {w0 w w' : World} (h : RS R c rb cb k y cs w0 w) (P : R k' y' w') (G : w.grownBy w' (some c)) : RS R c rb cb k' y' cs w0 w' := by
  have hr := (Array.getElem?_eq_some_iff.1 h.res).1
  have hc := (Array.getElem?_eq_some_iff.1 h.cmd).1
  exact ⟨P, (G.block rb hr (fun e => h.nrc (by injection e))).trans h.res, (G.block cb hc (fun e => by injection e with e; have := h.ccb; omega)).trans h.cmd,
    h.only.trans ((only_grown G).mono (fun j _ e => by injection e)), h.nrc, h.ccb, h.ne, h.rw0, h.cw0⟩
theorem RS.store {R : Nat → Nat → World → Prop} {c rb cb k y : Nat} {cs : Array Value} {w0 w : World} (K : Keeps R c) (h : RS R c rb cb k y cs w0 w) (j : Nat) (v : Value) : RS R c rb cb k y (cs.setIfInBounds j v) w0 (w.setCell ⟨cb, j, none⟩ v) :=
  ⟨K.keep _ _ _ _ _ h.rd (set_only w cb j v) (fun i e => by rw [e]; exact h.ccb), ((set_only w cb j v).block rb (Array.getElem?_eq_some_iff.1 h.res).1 h.ne).trans h.res, heap_setCell_same w cb j _ _ _ h.cmd,
    h.only.step (set_only w cb j v) (fun i hi e => by have := h.cw0; omega), h.nrc, h.ccb, h.ne, h.rw0, h.cw0⟩
theorem RS.draws {R : Nat → Nat → World → Prop} {c rb cb k y : Nat} {cs : Array Value} {w0 w : World} (K : Keeps R c) (h : RS R c rb cb k y cs w0 w) (q : Nat) : RS R c rb cb k y cs w0 (w.drewN q) :=
  ⟨K.keep _ _ _ _ (fun _ => False) h.rd ((Only.refl _ w).drewN q) (fun _ e => e.elim), h.res, h.cmd, h.only.drewN q, h.nrc, h.ccb, h.ne, h.rw0, h.cw0⟩
theorem keeps_pr (c g : Nat) (l : List UInt8) (hg : g ≤ c) : Keeps (PR c g l) c :=
  ⟨fun k y w w' p h ho hp => h.only ho (fun e => by have := hp c e; omega) (fun e => by have := hp g e; omega), fun k y w h => h.lt⟩
theorem Rd.only {p : Nat → Prop} {c : Nat} {A : Option Addr} {n cap : Nat} {l : List UInt8} {k y : Nat} {w w' : World} (h : Rd c A n cap l k y w) (ho : Only p w w') (hc : ¬ p c) (hA : ∀ b off sp, A = some ⟨b, off, sp⟩ → ¬ p b) : Rd c A n cap l k y w' :=
  ⟨(ho.block c h.at'.lt hc).trans h.at', h.hb.only ho hA, h.far, h.kn, h.ncap, h.cmax, h.nmax, h.none0, h.plain⟩
theorem keeps_rd (c : Nat) (A : Option Addr) (n cap : Nat) (l : List UInt8) (hA : ∀ b off sp, A = some ⟨b, off, sp⟩ → b < c) : Keeps (fun k y w => Rd c A n cap l k y w) c :=
  ⟨fun k y w w' p h ho hp => Rd.only h ho (fun e => by have := hp c e; omega) (fun b off sp e e2 => by have := hp b e2; have := hA b off sp e; omega), fun k y w h => h.at'.lt⟩
end Go.Proofs.Ytdbaphmhfoajgaa
