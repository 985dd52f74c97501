/-
  A product as it comes in: of its code's length nothing is known.
-/
import Derived.Test.YtpfgmebajefjaaaKeepInts
namespace Go.Proofs.Ytpfgmebajefjaaa
open Go.RowKit
set_option linter.unusedVariables false
set_option linter.unusedSimpArgs false
structure PD.Fit (p : PD) (w : World) : Prop where
  months : Nums w p.A1 p.n1 p.Q
  settle : Nums w p.A2 p.n2 p.R
  l1 : p.n1 ≤ p.c1
  m1 : p.c1 ≤ 9223372036854775807
  l2 : p.n2 ≤ p.c2
  m2 : p.c2 ≤ 9223372036854775807
  tick : I64 p.tick
  low : I64 p.low
  high : I64 p.high
  wide : I64 p.wide
  rule : I64 p.rule
  top : I64 p.top
  least : I64 p.least
  part : I64 p.part
theorem PD.Fit.below {p : PD} {w w' : World} (h : p.Fit w) (hb : Below w.heap.size w w') : p.Fit w' := ⟨h.months.below hb, h.settle.below hb, h.l1, h.m1, h.l2, h.m2, h.tick, h.low, h.high, h.wide, h.rule, h.top, h.least, h.part⟩
theorem PD.Ok.fit {p : PD} {w : World} (h : p.Ok w) : p.Fit w := ⟨h.months, h.settle, h.l1, h.m1, h.l2, h.m2, h.tick, h.low, h.high, h.wide, h.rule, h.top, h.least, h.part⟩
end Go.Proofs.Ytpfgmebajefjaaa
