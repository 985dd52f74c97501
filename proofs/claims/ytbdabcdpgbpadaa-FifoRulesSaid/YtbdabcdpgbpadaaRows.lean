/-
  No cell of these rows narrows 'for every input' (looked for: loops, veiled, ifaces, maps, wideKeys, modest, calm, conditions, laid).
  DERIVED. THE GIVEN ROWS OF THIS SEAT. 4 by the template 'for every input the law returns true; each argument reads behind the call as it read before'; 0 by the template 'total and deterministic' (their statements: YtbdabcdpgbpadaaTotals.lean).
  GIVEN WITH THE SEED: the statements are not yours to turn. If you find one false, say at which input.
  Laid BY PROGRAM, IN A SANDBOX (cutbox-rows.mjs): the forced cells as the released guide's own fill.sh prints them over the translation 55239fac5ba98e62… (all of the seat's roots in one cut). By AI agents, Wed Nov 11 2026. No macro, syntax, notation, axiom, sorry.
-/
import Derived.Test.YtbdabcdpgbpadaaChecked
import GoSem.Claim
import GoSem.ClaimJoined
import GoSem.ClaimMapViews
import Derived.JoinedTies
import Derived.KernelRfl
namespace Go.Proofs.Ytbdabcdpgbpadaa
/- THE CELL 'sum', in the pinned program and in every row, IS THE sha256 OF THE DUMP (.gsa) THAT YtbdabcdpgbpadaaProg.lean LOADS. Nothing in Lean hashes anything: it is a label: what it is worth is what the hold of that sum in a sandbox is worth. -/
noncomputable def Try.pinned : Pinned := { name := "ytbdabcdpgbpadaa", sum := "55239fac5ba98e6210f8f8a9ef2322c06b0c39303085f84674287e01a136c443", checked := Try.checked }
namespace Rows
def none {H : Type} : Left H := { results := [], args := [] }

/-- 'cornhilllaw10.FifoNumbers': WHATEVER THE INPUT: true; the input reads as it did. -/
def fifoNumbersSpec : ChangeSpec := { name := "fifoNumbers", fn := fun _ => fun
  | [] => { results := [.lit (.bool true)], args := [] }
  | _ => none }
def fifoNumbersRow : OpenClaim := { program := "ytbdabcdpgbpadaa", sum := "55239fac5ba98e6210f8f8a9ef2322c06b0c39303085f84674287e01a136c443", func := "cornhill/cornhilllaw10.FifoNumbers", spec := "fifoNumbers", apart := false }
def FifoNumbersSaid : Prop := fifoNumbersRow.holds Try.pinned (OpenSpec.ofChange fifoNumbersSpec)

/-- ITS FALSE NEIGHBOUR: 'it returns false'. Refute it at one input. -/
def fifoNumbersWrong : ChangeSpec := { name := "fifoNumbers", fn := fun _ => fun
  | [] => { results := [.lit (.bool false)], args := [] }
  | _ => none }
def FifoNumbersWrongFalsely : Prop := fifoNumbersRow.holds Try.pinned (OpenSpec.ofChange fifoNumbersWrong)

/-- 'cornhilllaw10.FifoTells': WHATEVER THE INPUT: true; the input reads as it did. -/
def fifoTellsSpec : ChangeSpec := { name := "fifoTells", fn := fun _ => fun
  | [d1, d2, d3] => { results := [.lit (.bool true)], args := [d1, d2, d3] }
  | _ => none }
def fifoTellsRow : OpenClaim := { program := "ytbdabcdpgbpadaa", sum := "55239fac5ba98e6210f8f8a9ef2322c06b0c39303085f84674287e01a136c443", func := "cornhill/cornhilllaw10.FifoTells", spec := "fifoTells", apart := false }
def FifoTellsSaid : Prop := fifoTellsRow.holds Try.pinned (OpenSpec.ofChange fifoTellsSpec)

/-- ITS FALSE NEIGHBOUR: 'it returns false'. Refute it at one input. -/
def fifoTellsWrong : ChangeSpec := { name := "fifoTells", fn := fun _ => fun
  | [d1, d2, d3] => { results := [.lit (.bool false)], args := [d1, d2, d3] }
  | _ => none }
def FifoTellsWrongFalsely : Prop := fifoTellsRow.holds Try.pinned (OpenSpec.ofChange fifoTellsWrong)

/-- 'cornhilllaw10.FifoRules': WHATEVER THE INPUT: true; the input reads as it did. -/
def fifoRulesSpec : ChangeSpec := { name := "fifoRules", fn := fun _ => fun
  | [d1, d2, d3] => { results := [.lit (.bool true)], args := [d1, d2, d3] }
  | _ => none }
def fifoRulesRow : OpenClaim := { program := "ytbdabcdpgbpadaa", sum := "55239fac5ba98e6210f8f8a9ef2322c06b0c39303085f84674287e01a136c443", func := "cornhill/cornhilllaw10.FifoRules", spec := "fifoRules", apart := false }
def FifoRulesSaid : Prop := fifoRulesRow.holds Try.pinned (OpenSpec.ofChange fifoRulesSpec)

/-- ITS FALSE NEIGHBOUR: 'it returns false'. Refute it at one input. -/
def fifoRulesWrong : ChangeSpec := { name := "fifoRules", fn := fun _ => fun
  | [d1, d2, d3] => { results := [.lit (.bool false)], args := [d1, d2, d3] }
  | _ => none }
def FifoRulesWrongFalsely : Prop := fifoRulesRow.holds Try.pinned (OpenSpec.ofChange fifoRulesWrong)

/-- 'cornhilllaw10.FifoGrows': WHATEVER THE INPUT: true; the input reads as it did. -/
def fifoGrowsSpec : ChangeSpec := { name := "fifoGrows", fn := fun _ => fun
  | [d1, d2, d3, d4] => { results := [.lit (.bool true)], args := [d1, d2, d3, d4] }
  | _ => none }
def fifoGrowsRow : OpenClaim := { program := "ytbdabcdpgbpadaa", sum := "55239fac5ba98e6210f8f8a9ef2322c06b0c39303085f84674287e01a136c443", func := "cornhill/cornhilllaw10.FifoGrows", spec := "fifoGrows", apart := false }
def FifoGrowsSaid : Prop := fifoGrowsRow.holds Try.pinned (OpenSpec.ofChange fifoGrowsSpec)

/-- ITS FALSE NEIGHBOUR: 'it returns false'. Refute it at one input. -/
def fifoGrowsWrong : ChangeSpec := { name := "fifoGrows", fn := fun _ => fun
  | [d1, d2, d3, d4] => { results := [.lit (.bool false)], args := [d1, d2, d3, d4] }
  | _ => none }
def FifoGrowsWrongFalsely : Prop := fifoGrowsRow.holds Try.pinned (OpenSpec.ofChange fifoGrowsWrong)

/- THE SECOND FORM. 'bulk': how many values and letters a reading holds, each counted each time it is reached (what is shared counts as often as it is met; a slice's spare places count too). A statement '..UptoSaid' is the law's where the arguments, and the package variables that the reading takes, are together of bulk at most 1048576: NARROWER than '..Said'. Prove '..Said' where nothing that the law and all that it calls make is longer than what came in: it says more and counts as full. Else prove '..UptoSaid'. A law counts once. -/
mutual
def uptoBulk {H : Type} : DataW H → Nat
  | .lit (.string bytes) => bytes.length + 1
  | .lit _ => 1
  | .nil => 1
  | .ptr d => uptoBulk d + 1
  | .slice elems spare => uptoBulkAll elems + uptoBulkAll spare + 1
  | .agg parts => uptoBulkAll parts + 1
  | .iface _ d => uptoBulk d + 1
  | .map entries => uptoBulkEntries entries + 1
  | .held _ => 1
def uptoBulkAll {H : Type} : List (DataW H) → Nat
  | [] => 0
  | d :: r => uptoBulk d + uptoBulkAll r
def uptoBulkEntries {H : Type} : List (Lit × DataW H) → Nat
  | [] => 0
  | x :: r => uptoBulkEntry x + uptoBulkEntries r
def uptoBulkEntry {H : Type} : Lit × DataW H → Nat
  | (.string bytes, d) => bytes.length + uptoBulk d + 1
  | (_, d) => uptoBulk d + 1
 end
def uptoSmall : (H : Type) → List (DataW H) → Bool := fun _ ds => decide (uptoBulkAll ds ≤ 1048576)
def OpenSpec.upto (s : _root_.Go.ChangeSpec) : _root_.Go.OpenSpec := { _root_.Go.OpenSpec.ofChange s with cond := some uptoSmall }

/-- 'cornhilllaw10.FifoNumbers', WHERE WHAT IT READS IS OF BULK AT MOST 1048576: true; the input reads as it did. -/
def fifoNumbersUptoRow : OpenClaim := { program := "ytbdabcdpgbpadaa", sum := "55239fac5ba98e6210f8f8a9ef2322c06b0c39303085f84674287e01a136c443", func := "cornhill/cornhilllaw10.FifoNumbers", spec := "fifoNumbers", apart := false, narrowed := true }
def FifoNumbersUptoSaid : Prop := fifoNumbersUptoRow.holds Try.pinned (OpenSpec.upto fifoNumbersSpec)

/-- 'cornhilllaw10.FifoTells', WHERE WHAT IT READS IS OF BULK AT MOST 1048576: true; the input reads as it did. -/
def fifoTellsUptoRow : OpenClaim := { program := "ytbdabcdpgbpadaa", sum := "55239fac5ba98e6210f8f8a9ef2322c06b0c39303085f84674287e01a136c443", func := "cornhill/cornhilllaw10.FifoTells", spec := "fifoTells", apart := false, narrowed := true }
def FifoTellsUptoSaid : Prop := fifoTellsUptoRow.holds Try.pinned (OpenSpec.upto fifoTellsSpec)

/-- 'cornhilllaw10.FifoRules', WHERE WHAT IT READS IS OF BULK AT MOST 1048576: true; the input reads as it did. -/
def fifoRulesUptoRow : OpenClaim := { program := "ytbdabcdpgbpadaa", sum := "55239fac5ba98e6210f8f8a9ef2322c06b0c39303085f84674287e01a136c443", func := "cornhill/cornhilllaw10.FifoRules", spec := "fifoRules", apart := false, narrowed := true }
def FifoRulesUptoSaid : Prop := fifoRulesUptoRow.holds Try.pinned (OpenSpec.upto fifoRulesSpec)

/-- 'cornhilllaw10.FifoGrows', WHERE WHAT IT READS IS OF BULK AT MOST 1048576: true; the input reads as it did. -/
def fifoGrowsUptoRow : OpenClaim := { program := "ytbdabcdpgbpadaa", sum := "55239fac5ba98e6210f8f8a9ef2322c06b0c39303085f84674287e01a136c443", func := "cornhill/cornhilllaw10.FifoGrows", spec := "fifoGrows", apart := false, narrowed := true }
def FifoGrowsUptoSaid : Prop := fifoGrowsUptoRow.holds Try.pinned (OpenSpec.upto fifoGrowsSpec)

end Rows
end Go.Proofs.Ytbdabcdpgbpadaa
