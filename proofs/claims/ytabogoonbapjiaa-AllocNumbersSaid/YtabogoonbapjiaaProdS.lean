/-
  A product as a value.
-/
import Derived.Test.YtabogoonbapjiaaNum
import Derived.Test.YtabogoonbapjiaaRunes
import Derived.Deep.Cut
namespace Go.Proofs.Ytabogoonbapjiaa
open Go.RowKit
set_option linter.unusedVariables false
set_option linter.unusedSimpArgs false

structure PD where
  code : List UInt8
  A1 : Option Addr
  n1 : Nat
  c1 : Nat
  tick : Int
  low : Int
  high : Int
  wide : Int
  rule : Int
  top : Int
  least : Int
  part : Int
  A2 : Option Addr
  n2 : Nat
  c2 : Nat
  Q : Nat → Int
  R : Nat → Int
def PD.cells (p : PD) : Array Value := #[.string (str p.code), .slice p.A1 p.n1 p.c1, .int .i64 p.tick, .int .i64 p.low, .int .i64 p.high, .int .i64 p.wide, .int .i64 p.rule, .int .i64 p.top, .int .i64 p.least, .int .i64 p.part, .slice p.A2 p.n2 p.c2]
def PD.val (p : PD) : Value := .agg p.cells
/-- Number i of a slice of numbers. -/
def Nums (w : World) (a : Option Addr) (len : Nat) (N : Nat → Int) : Prop :=
  ∀ i, i < len → ∃ b off, a = some ⟨b, off, none⟩ ∧ w.cell? ⟨b, off + i, none⟩ = some (.int .i64 (N i)) ∧ -9223372036854775808 ≤ N i ∧ N i ≤ 9223372036854775807
theorem Nums.below {w w' : World} {a : Option Addr} {len : Nat} {N : Nat → Int} (h : Nums w a len N) (hb : Below w.heap.size w w') : Nums w' a len N := by
  intro i hi
  obtain ⟨b, off, e, h1, h4⟩ := h i hi
  exact ⟨b, off, e, (hb.cell (p := ⟨b, off + i, none⟩) (World.block_lt_of_cell? w _ h1)).trans h1, h4⟩
structure PD.Ok (p : PD) (w : World) : Prop where
  months : Nums w p.A1 p.n1 p.Q
  settle : Nums w p.A2 p.n2 p.R
  code : p.code.length ≤ 140737488355328
  l1 : p.n1 ≤ p.c1
  m1 : p.c1 ≤ 9223372036854775807
  l2 : p.n2 ≤ p.c2
  m2 : p.c2 ≤ 9223372036854775807
  tick : I64 p.tick
  low : I64 p.low
  high : I64 p.high
  wide : I64 p.wide
  rule : I64 p.rule
  top : I64 p.top
  least : I64 p.least
  part : I64 p.part
theorem PD.Ok.below {p : PD} {w w' : World} (h : p.Ok w) (hb : Below w.heap.size w w') : p.Ok w' := ⟨h.months.below hb, h.settle.below hb, h.code, h.l1, h.m1, h.l2, h.m2, h.tick, h.low, h.high, h.wide, h.rule, h.top, h.least, h.part⟩
end Go.Proofs.Ytabogoonbapjiaa
