/-
  No cell of these rows narrows 'for every input' (looked for: loops, veiled, ifaces, maps, wideKeys, modest, calm, conditions, laid).
  DERIVED. THE GIVEN ROWS OF THIS SEAT. 4 by the template 'for every input the law returns true; each argument reads behind the call as it read before'; 0 by the template 'total and deterministic' (their statements: YtabogoonbapjiaaTotals.lean).
  GIVEN WITH THE SEED: the statements are not yours to turn. If you find one false, say at which input.
  Laid BY PROGRAM, IN A SANDBOX (cutbox-rows.mjs): the forced cells as the released guide's own fill.sh prints them over the translation d3c2d2544ac036be… (all of the seat's roots in one cut). By AI agents, Wed Nov 11 2026. No macro, syntax, notation, axiom, sorry.
-/
import Derived.Test.YtabogoonbapjiaaChecked
import GoSem.Claim
import GoSem.ClaimJoined
import GoSem.ClaimMapViews
import Derived.JoinedTies
import Derived.KernelRfl
namespace Go.Proofs.Ytabogoonbapjiaa
/- THE CELL 'sum', in the pinned program and in every row, IS THE sha256 OF THE DUMP (.gsa) THAT YtabogoonbapjiaaProg.lean LOADS. Nothing in Lean hashes anything: it is a label: what it is worth is what the hold of that sum in a sandbox is worth. -/
noncomputable def Try.pinned : Pinned := { name := "ytabogoonbapjiaa", sum := "d3c2d2544ac036bee916672cf655c6fcee492cc2c003a85335bb9b373eb27039", checked := Try.checked }
namespace Rows
def none {H : Type} : Left H := { results := [], args := [] }

/-- 'cornhilllaw13.AllocNumbers': WHATEVER THE INPUT: true; the input reads as it did. -/
def allocNumbersSpec : ChangeSpec := { name := "allocNumbers", fn := fun _ => fun
  | [] => { results := [.lit (.bool true)], args := [] }
  | _ => none }
def allocNumbersRow : OpenClaim := { program := "ytabogoonbapjiaa", sum := "d3c2d2544ac036bee916672cf655c6fcee492cc2c003a85335bb9b373eb27039", func := "cornhill/cornhilllaw13.AllocNumbers", spec := "allocNumbers", inPlace := ["math/bits.Add64"], named := ["math/bits.divideError", "math/bits.overflowError"], apart := false }
def AllocNumbersSaid : Prop := allocNumbersRow.holds Try.pinned (OpenSpec.ofChange allocNumbersSpec)

/-- ITS FALSE NEIGHBOUR: 'it returns false'. Refute it at one input. -/
def allocNumbersWrong : ChangeSpec := { name := "allocNumbers", fn := fun _ => fun
  | [] => { results := [.lit (.bool false)], args := [] }
  | _ => none }
def AllocNumbersWrongFalsely : Prop := allocNumbersRow.holds Try.pinned (OpenSpec.ofChange allocNumbersWrong)

/-- 'cornhilllaw13.AllocTells': WHATEVER THE INPUT: true; the input reads as it did. -/
def allocTellsSpec : ChangeSpec := { name := "allocTells", fn := fun _ => fun
  | [d1, d2, d3, d4] => { results := [.lit (.bool true)], args := [d1, d2, d3, d4] }
  | _ => none }
def allocTellsRow : OpenClaim := { program := "ytabogoonbapjiaa", sum := "d3c2d2544ac036bee916672cf655c6fcee492cc2c003a85335bb9b373eb27039", func := "cornhill/cornhilllaw13.AllocTells", spec := "allocTells", inPlace := ["math/bits.Add64"], named := ["math/bits.divideError", "math/bits.overflowError"], apart := false }
def AllocTellsSaid : Prop := allocTellsRow.holds Try.pinned (OpenSpec.ofChange allocTellsSpec)

/-- ITS FALSE NEIGHBOUR: 'it returns false'. Refute it at one input. -/
def allocTellsWrong : ChangeSpec := { name := "allocTells", fn := fun _ => fun
  | [d1, d2, d3, d4] => { results := [.lit (.bool false)], args := [d1, d2, d3, d4] }
  | _ => none }
def AllocTellsWrongFalsely : Prop := allocTellsRow.holds Try.pinned (OpenSpec.ofChange allocTellsWrong)

/-- 'cornhilllaw13.AllocRules': WHATEVER THE INPUT: true; the input reads as it did. -/
def allocRulesSpec : ChangeSpec := { name := "allocRules", fn := fun _ => fun
  | [d1, d2, d3] => { results := [.lit (.bool true)], args := [d1, d2, d3] }
  | _ => none }
def allocRulesRow : OpenClaim := { program := "ytabogoonbapjiaa", sum := "d3c2d2544ac036bee916672cf655c6fcee492cc2c003a85335bb9b373eb27039", func := "cornhill/cornhilllaw13.AllocRules", spec := "allocRules", inPlace := ["math/bits.Add64"], named := ["math/bits.divideError", "math/bits.overflowError"], apart := false }
def AllocRulesSaid : Prop := allocRulesRow.holds Try.pinned (OpenSpec.ofChange allocRulesSpec)

/-- ITS FALSE NEIGHBOUR: 'it returns false'. Refute it at one input. -/
def allocRulesWrong : ChangeSpec := { name := "allocRules", fn := fun _ => fun
  | [d1, d2, d3] => { results := [.lit (.bool false)], args := [d1, d2, d3] }
  | _ => none }
def AllocRulesWrongFalsely : Prop := allocRulesRow.holds Try.pinned (OpenSpec.ofChange allocRulesWrong)

/-- 'cornhilllaw13.AllocAll': WHATEVER THE INPUT: true; the input reads as it did. -/
def allocAllSpec : ChangeSpec := { name := "allocAll", fn := fun _ => fun
  | [d1, d2, d3] => { results := [.lit (.bool true)], args := [d1, d2, d3] }
  | _ => none }
def allocAllRow : OpenClaim := { program := "ytabogoonbapjiaa", sum := "d3c2d2544ac036bee916672cf655c6fcee492cc2c003a85335bb9b373eb27039", func := "cornhill/cornhilllaw13.AllocAll", spec := "allocAll", inPlace := ["math/bits.Add64"], named := ["math/bits.divideError", "math/bits.overflowError"], apart := false }
def AllocAllSaid : Prop := allocAllRow.holds Try.pinned (OpenSpec.ofChange allocAllSpec)

/-- ITS FALSE NEIGHBOUR: 'it returns false'. Refute it at one input. -/
def allocAllWrong : ChangeSpec := { name := "allocAll", fn := fun _ => fun
  | [d1, d2, d3] => { results := [.lit (.bool false)], args := [d1, d2, d3] }
  | _ => none }
def AllocAllWrongFalsely : Prop := allocAllRow.holds Try.pinned (OpenSpec.ofChange allocAllWrong)

/- THE SECOND FORM. 'bulk': how many values and letters a reading holds, each counted each time it is reached (what is shared counts as often as it is met; a slice's spare places count too). A statement '..UptoSaid' is the law's where the arguments, and the package variables that the reading takes, are together of bulk at most 1048576: NARROWER than '..Said'. Prove '..Said' where nothing that the law and all that it calls make is longer than what came in: it says more and counts as full. Else prove '..UptoSaid'. A law counts once. -/
mutual
def uptoBulk {H : Type} : DataW H → Nat
  | .lit (.string bytes) => bytes.length + 1
  | .lit _ => 1
  | .nil => 1
  | .ptr d => uptoBulk d + 1
  | .slice elems spare => uptoBulkAll elems + uptoBulkAll spare + 1
  | .agg parts => uptoBulkAll parts + 1
  | .iface _ d => uptoBulk d + 1
  | .map entries => uptoBulkEntries entries + 1
  | .held _ => 1
def uptoBulkAll {H : Type} : List (DataW H) → Nat
  | [] => 0
  | d :: r => uptoBulk d + uptoBulkAll r
def uptoBulkEntries {H : Type} : List (Lit × DataW H) → Nat
  | [] => 0
  | x :: r => uptoBulkEntry x + uptoBulkEntries r
def uptoBulkEntry {H : Type} : Lit × DataW H → Nat
  | (.string bytes, d) => bytes.length + uptoBulk d + 1
  | (_, d) => uptoBulk d + 1
 end
def uptoSmall : (H : Type) → List (DataW H) → Bool := fun _ ds => decide (uptoBulkAll ds ≤ 1048576)
def OpenSpec.upto (s : _root_.Go.ChangeSpec) : _root_.Go.OpenSpec := { _root_.Go.OpenSpec.ofChange s with cond := some uptoSmall }

/-- 'cornhilllaw13.AllocNumbers', WHERE WHAT IT READS IS OF BULK AT MOST 1048576: true; the input reads as it did. -/
def allocNumbersUptoRow : OpenClaim := { program := "ytabogoonbapjiaa", sum := "d3c2d2544ac036bee916672cf655c6fcee492cc2c003a85335bb9b373eb27039", func := "cornhill/cornhilllaw13.AllocNumbers", spec := "allocNumbers", inPlace := ["math/bits.Add64"], named := ["math/bits.divideError", "math/bits.overflowError"], apart := false, narrowed := true }
def AllocNumbersUptoSaid : Prop := allocNumbersUptoRow.holds Try.pinned (OpenSpec.upto allocNumbersSpec)

/-- 'cornhilllaw13.AllocTells', WHERE WHAT IT READS IS OF BULK AT MOST 1048576: true; the input reads as it did. -/
def allocTellsUptoRow : OpenClaim := { program := "ytabogoonbapjiaa", sum := "d3c2d2544ac036bee916672cf655c6fcee492cc2c003a85335bb9b373eb27039", func := "cornhill/cornhilllaw13.AllocTells", spec := "allocTells", inPlace := ["math/bits.Add64"], named := ["math/bits.divideError", "math/bits.overflowError"], apart := false, narrowed := true }
def AllocTellsUptoSaid : Prop := allocTellsUptoRow.holds Try.pinned (OpenSpec.upto allocTellsSpec)

/-- 'cornhilllaw13.AllocRules', WHERE WHAT IT READS IS OF BULK AT MOST 1048576: true; the input reads as it did. -/
def allocRulesUptoRow : OpenClaim := { program := "ytabogoonbapjiaa", sum := "d3c2d2544ac036bee916672cf655c6fcee492cc2c003a85335bb9b373eb27039", func := "cornhill/cornhilllaw13.AllocRules", spec := "allocRules", inPlace := ["math/bits.Add64"], named := ["math/bits.divideError", "math/bits.overflowError"], apart := false, narrowed := true }
def AllocRulesUptoSaid : Prop := allocRulesUptoRow.holds Try.pinned (OpenSpec.upto allocRulesSpec)

/-- 'cornhilllaw13.AllocAll', WHERE WHAT IT READS IS OF BULK AT MOST 1048576: true; the input reads as it did. -/
def allocAllUptoRow : OpenClaim := { program := "ytabogoonbapjiaa", sum := "d3c2d2544ac036bee916672cf655c6fcee492cc2c003a85335bb9b373eb27039", func := "cornhill/cornhilllaw13.AllocAll", spec := "allocAll", inPlace := ["math/bits.Add64"], named := ["math/bits.divideError", "math/bits.overflowError"], apart := false, narrowed := true }
def AllocAllUptoSaid : Prop := allocAllUptoRow.holds Try.pinned (OpenSpec.upto allocAllSpec)

end Rows
end Go.Proofs.Ytabogoonbapjiaa
