/-
  A product as a value, and what Check answers of it.
-/
import Derived.Test.YtpfgmebajefjaaaSymCode
import Derived.Test.YtpfgmebajefjaaaNum
import Derived.Lib.Hide
import Derived.Deep.QuietTactic
import Derived.Deep.Cut
import Derived.BigQuiet
namespace Go.Proofs.Ytpfgmebajefjaaa
open Go.RowKit
set_option linter.unusedVariables false
set_option linter.unusedSimpArgs false

structure PD where
  code : List UInt8
  A1 : Option Addr
  n1 : Nat
  c1 : Nat
  tick : Int
  low : Int
  high : Int
  wide : Int
  rule : Int
  top : Int
  least : Int
  part : Int
  A2 : Option Addr
  n2 : Nat
  c2 : Nat
  Q : Nat → Int
  R : Nat → Int
def PD.cells (p : PD) : Array Value := #[.string (str p.code), .slice p.A1 p.n1 p.c1, .int .i64 p.tick, .int .i64 p.low, .int .i64 p.high, .int .i64 p.wide, .int .i64 p.rule, .int .i64 p.top, .int .i64 p.least, .int .i64 p.part, .slice p.A2 p.n2 p.c2]
def PD.val (p : PD) : Value := .agg p.cells
/-- Number i of a slice of numbers. -/
def Nums (w : World) (a : Option Addr) (len : Nat) (N : Nat → Int) : Prop :=
  ∀ i, i < len → ∃ b off, a = some ⟨b, off, none⟩ ∧ w.cell? ⟨b, off + i, none⟩ = some (.int .i64 (N i)) ∧ -9223372036854775808 ≤ N i ∧ N i ≤ 9223372036854775807
theorem Nums.below {w w' : World} {a : Option Addr} {len : Nat} {N : Nat → Int} (h : Nums w a len N) (hb : Below w.heap.size w w') : Nums w' a len N := by
  intro i hi
  obtain ⟨b, off, e, h1, h4⟩ := h i hi
  exact ⟨b, off, e, (hb.cell (p := ⟨b, off + i, none⟩) (World.block_lt_of_cell? w _ h1)).trans h1, h4⟩
structure PD.Ok (p : PD) (w : World) : Prop where
  months : Nums w p.A1 p.n1 p.Q
  settle : Nums w p.A2 p.n2 p.R
  code : p.code.length ≤ 140737488355328
  l1 : p.n1 ≤ p.c1
  m1 : p.c1 ≤ 9223372036854775807
  l2 : p.n2 ≤ p.c2
  m2 : p.c2 ≤ 9223372036854775807
  tick : I64 p.tick
  low : I64 p.low
  high : I64 p.high
  wide : I64 p.wide
  rule : I64 p.rule
  top : I64 p.top
  least : I64 p.least
  part : I64 p.part
theorem PD.Ok.below {p : PD} {w w' : World} (h : p.Ok w) (hb : Below w.heap.size w w') : p.Ok w' := ⟨h.months.below hb, h.settle.below hb, h.code, h.l1, h.m1, h.l2, h.m2, h.tick, h.low, h.high, h.wide, h.rule, h.top, h.least, h.part⟩

/-- What Check answers, stage by stage. -/
def okM (Q : Nat → Int) (i : Nat) : Prop := 0 ≤ Q i ∧ Q i ≤ 1199 ∧ (0 < i → Q (i - 1) < Q i)
instance (Q : Nat → Int) (i : Nat) : Decidable (okM Q i) := by unfold okM; infer_instance
def chk9 (p : PD) : Nat := if p.top < 0 ∨ 1000000 < p.top ∨ p.least < 1 ∨ 1000 < p.least ∨ p.part < 0 ∨ 100 < p.part then 24 else 0
def chk8 (p : PD) : Nat := if p.rule < 1 ∨ 3 < p.rule then 31 else chk9 p
def chk7 (p : PD) : Nat := if (∀ i, i < p.n2 → p.low ≤ p.R i ∧ p.R i ≤ p.high) then chk8 p else 1
def chk6 (p : PD) : Nat := if p.n2 ≠ p.n1 then 1 else chk7 p
def chk5 (p : PD) : Nat := if p.low < -1000000 ∨ p.high ≤ p.low ∨ 1000000 < p.high ∨ p.wide < 0 ∨ p.high - p.low < p.wide then 23 else chk6 p
def chk4 (p : PD) : Nat := if (∀ i, i < p.n2 → (p.R i).tmod p.tick = 0) then chk5 p else 22
def chk3 (p : PD) : Nat := if p.tick < 1 ∨ 1000 < p.tick ∨ p.low.tmod p.tick ≠ 0 ∨ p.high.tmod p.tick ≠ 0 ∨ p.wide.tmod p.tick ≠ 0 then 22 else chk4 p
def chk2 (p : PD) : Nat := if (∀ i, i < p.n1 → okM p.Q i) then chk3 p else 1
def chk1 (p : PD) : Nat := if p.n1 < 2 ∨ 6 < p.n1 then 1 else chk2 p
def chk (p : PD) : Nat := if prodB p.code = false then 12 else chk1 p
/-- The stages, each by a letter. -/
theorem chk_chain (p : PD) : ∃ e1 e2 e3 e4 e5 e6 e7 e8 e9 : Nat, ((prodB p.code = false → chk p = 12) ∧ (prodB p.code = true → chk p = e1)) ∧
    ((p.n1 < 2 ∨ 6 < p.n1 → e1 = 1) ∧ (¬ (p.n1 < 2 ∨ 6 < p.n1) → e1 = e2)) ∧
    ((¬ (∀ i, i < p.n1 → okM p.Q i) → e2 = 1) ∧ ((∀ i, i < p.n1 → okM p.Q i) → e2 = e3)) ∧
    ((p.tick < 1 ∨ 1000 < p.tick ∨ p.low.tmod p.tick ≠ 0 ∨ p.high.tmod p.tick ≠ 0 ∨ p.wide.tmod p.tick ≠ 0 → e3 = 22) ∧ (¬ (p.tick < 1 ∨ 1000 < p.tick ∨ p.low.tmod p.tick ≠ 0 ∨ p.high.tmod p.tick ≠ 0 ∨ p.wide.tmod p.tick ≠ 0) → e3 = e4)) ∧
    ((¬ (∀ i, i < p.n2 → (p.R i).tmod p.tick = 0) → e4 = 22) ∧ ((∀ i, i < p.n2 → (p.R i).tmod p.tick = 0) → e4 = e5)) ∧
    ((p.low < -1000000 ∨ p.high ≤ p.low ∨ 1000000 < p.high ∨ p.wide < 0 ∨ p.high - p.low < p.wide → e5 = 23) ∧ (¬ (p.low < -1000000 ∨ p.high ≤ p.low ∨ 1000000 < p.high ∨ p.wide < 0 ∨ p.high - p.low < p.wide) → e5 = e6)) ∧
    ((p.n2 ≠ p.n1 → e6 = 1) ∧ (¬ (p.n2 ≠ p.n1) → e6 = e7)) ∧
    ((¬ (∀ i, i < p.n2 → p.low ≤ p.R i ∧ p.R i ≤ p.high) → e7 = 1) ∧ ((∀ i, i < p.n2 → p.low ≤ p.R i ∧ p.R i ≤ p.high) → e7 = e8)) ∧
    ((p.rule < 1 ∨ 3 < p.rule → e8 = 31) ∧ (¬ (p.rule < 1 ∨ 3 < p.rule) → e8 = e9)) ∧
    ((p.top < 0 ∨ 1000000 < p.top ∨ p.least < 1 ∨ 1000 < p.least ∨ p.part < 0 ∨ 100 < p.part → e9 = 24) ∧ (¬ (p.top < 0 ∨ 1000000 < p.top ∨ p.least < 1 ∨ 1000 < p.least ∨ p.part < 0 ∨ 100 < p.part) → e9 = 0)) :=
  ⟨chk1 p, chk2 p, chk3 p, chk4 p, chk5 p, chk6 p, chk7 p, chk8 p, chk9 p,
    ⟨fun h => if_pos h, fun h => if_neg (by rw [h]; decide)⟩,
    ⟨fun h => if_pos h, fun h => if_neg h⟩,
    ⟨fun h => if_neg h, fun h => if_pos h⟩,
    ⟨fun h => if_pos h, fun h => if_neg h⟩,
    ⟨fun h => if_neg h, fun h => if_pos h⟩,
    ⟨fun h => if_pos h, fun h => if_neg h⟩,
    ⟨fun h => if_pos h, fun h => if_neg h⟩,
    ⟨fun h => if_neg h, fun h => if_pos h⟩,
    ⟨fun h => if_pos h, fun h => if_neg h⟩,
    ⟨fun h => if_pos h, fun h => if_neg h⟩⟩
end Go.Proofs.Ytpfgmebajefjaaa
