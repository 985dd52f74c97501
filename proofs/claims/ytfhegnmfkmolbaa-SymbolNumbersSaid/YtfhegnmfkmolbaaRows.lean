/-
  No cell of these rows narrows 'for every input' (looked for: loops, veiled, ifaces, maps, wideKeys, modest, calm, conditions, laid).
  DERIVED. THE GIVEN ROWS OF THIS SEAT. 6 by the template 'for every input the law returns true; each argument reads behind the call as it read before'; 0 by the template 'total and deterministic' (their statements: YtfhegnmfkmolbaaTotals.lean).
  GIVEN WITH THE SEED: the statements are not yours to turn. If you find one false, say at which input.
  Laid BY PROGRAM, IN A SANDBOX (cutbox-rows.mjs): the forced cells as the released guide's own fill.sh prints them over the translation e140e9753481b819… (all of the seat's roots in one cut). By AI agents, Wed Nov 11 2026. No macro, syntax, notation, axiom, sorry.
-/
import Derived.Test.YtfhegnmfkmolbaaChecked
import GoSem.Claim
import GoSem.ClaimJoined
import GoSem.ClaimMapViews
import Derived.JoinedTies
import Derived.KernelRfl
namespace Go.Proofs.Ytfhegnmfkmolbaa
/- THE CELL 'sum', in the pinned program and in every row, IS THE sha256 OF THE DUMP (.gsa) THAT YtfhegnmfkmolbaaProg.lean LOADS. Nothing in Lean hashes anything: it is a label: what it is worth is what the hold of that sum in a sandbox is worth. -/
noncomputable def Try.pinned : Pinned := { name := "ytfhegnmfkmolbaa", sum := "e140e9753481b819794425a49c7cdb8f43e9fdafad55b55114735149f7ab201e", checked := Try.checked }
namespace Rows
def none {H : Type} : Left H := { results := [], args := [] }

/-- 'cornhilllaw3.SymbolNumbers': WHATEVER THE INPUT: true; the input reads as it did. -/
def symbolNumbersSpec : ChangeSpec := { name := "symbolNumbers", fn := fun _ => fun
  | [] => { results := [.lit (.bool true)], args := [] }
  | _ => none }
def symbolNumbersRow : OpenClaim := { program := "ytfhegnmfkmolbaa", sum := "e140e9753481b819794425a49c7cdb8f43e9fdafad55b55114735149f7ab201e", func := "cornhill/cornhilllaw3.SymbolNumbers", spec := "symbolNumbers", apart := false }
def SymbolNumbersSaid : Prop := symbolNumbersRow.holds Try.pinned (OpenSpec.ofChange symbolNumbersSpec)

/-- ITS FALSE NEIGHBOUR: 'it returns false'. Refute it at one input. -/
def symbolNumbersWrong : ChangeSpec := { name := "symbolNumbers", fn := fun _ => fun
  | [] => { results := [.lit (.bool false)], args := [] }
  | _ => none }
def SymbolNumbersWrongFalsely : Prop := symbolNumbersRow.holds Try.pinned (OpenSpec.ofChange symbolNumbersWrong)

/-- 'cornhilllaw3.SymbolTells': WHATEVER THE INPUT: true; the input reads as it did. -/
def symbolTellsSpec : ChangeSpec := { name := "symbolTells", fn := fun _ => fun
  | [d1, d2, d3, d4] => { results := [.lit (.bool true)], args := [d1, d2, d3, d4] }
  | _ => none }
def symbolTellsRow : OpenClaim := { program := "ytfhegnmfkmolbaa", sum := "e140e9753481b819794425a49c7cdb8f43e9fdafad55b55114735149f7ab201e", func := "cornhill/cornhilllaw3.SymbolTells", spec := "symbolTells", apart := false }
def SymbolTellsSaid : Prop := symbolTellsRow.holds Try.pinned (OpenSpec.ofChange symbolTellsSpec)

/-- ITS FALSE NEIGHBOUR: 'it returns false'. Refute it at one input. -/
def symbolTellsWrong : ChangeSpec := { name := "symbolTells", fn := fun _ => fun
  | [d1, d2, d3, d4] => { results := [.lit (.bool false)], args := [d1, d2, d3, d4] }
  | _ => none }
def SymbolTellsWrongFalsely : Prop := symbolTellsRow.holds Try.pinned (OpenSpec.ofChange symbolTellsWrong)

/-- 'cornhilllaw3.SymbolBack': WHATEVER THE INPUT: true; the input reads as it did. -/
def symbolBackSpec : ChangeSpec := { name := "symbolBack", fn := fun _ => fun
  | [d1, d2, d3, d4] => { results := [.lit (.bool true)], args := [d1, d2, d3, d4] }
  | _ => none }
def symbolBackRow : OpenClaim := { program := "ytfhegnmfkmolbaa", sum := "e140e9753481b819794425a49c7cdb8f43e9fdafad55b55114735149f7ab201e", func := "cornhill/cornhilllaw3.SymbolBack", spec := "symbolBack", apart := false }
def SymbolBackSaid : Prop := symbolBackRow.holds Try.pinned (OpenSpec.ofChange symbolBackSpec)

/-- ITS FALSE NEIGHBOUR: 'it returns false'. Refute it at one input. -/
def symbolBackWrong : ChangeSpec := { name := "symbolBack", fn := fun _ => fun
  | [d1, d2, d3, d4] => { results := [.lit (.bool false)], args := [d1, d2, d3, d4] }
  | _ => none }
def SymbolBackWrongFalsely : Prop := symbolBackRow.holds Try.pinned (OpenSpec.ofChange symbolBackWrong)

/-- 'cornhilllaw3.SymbolMonths': WHATEVER THE INPUT: true; the input reads as it did. -/
def symbolMonthsSpec : ChangeSpec := { name := "symbolMonths", fn := fun _ => fun
  | [d1, d2] => { results := [.lit (.bool true)], args := [d1, d2] }
  | _ => none }
def symbolMonthsRow : OpenClaim := { program := "ytfhegnmfkmolbaa", sum := "e140e9753481b819794425a49c7cdb8f43e9fdafad55b55114735149f7ab201e", func := "cornhill/cornhilllaw3.SymbolMonths", spec := "symbolMonths", apart := false }
def SymbolMonthsSaid : Prop := symbolMonthsRow.holds Try.pinned (OpenSpec.ofChange symbolMonthsSpec)

/-- ITS FALSE NEIGHBOUR: 'it returns false'. Refute it at one input. -/
def symbolMonthsWrong : ChangeSpec := { name := "symbolMonths", fn := fun _ => fun
  | [d1, d2] => { results := [.lit (.bool false)], args := [d1, d2] }
  | _ => none }
def SymbolMonthsWrongFalsely : Prop := symbolMonthsRow.holds Try.pinned (OpenSpec.ofChange symbolMonthsWrong)

/-- 'cornhilllaw3.SymbolSpreads': WHATEVER THE INPUT: true; the input reads as it did. -/
def symbolSpreadsSpec : ChangeSpec := { name := "symbolSpreads", fn := fun _ => fun
  | [d1, d2, d3] => { results := [.lit (.bool true)], args := [d1, d2, d3] }
  | _ => none }
def symbolSpreadsRow : OpenClaim := { program := "ytfhegnmfkmolbaa", sum := "e140e9753481b819794425a49c7cdb8f43e9fdafad55b55114735149f7ab201e", func := "cornhill/cornhilllaw3.SymbolSpreads", spec := "symbolSpreads", apart := false }
def SymbolSpreadsSaid : Prop := symbolSpreadsRow.holds Try.pinned (OpenSpec.ofChange symbolSpreadsSpec)

/-- ITS FALSE NEIGHBOUR: 'it returns false'. Refute it at one input. -/
def symbolSpreadsWrong : ChangeSpec := { name := "symbolSpreads", fn := fun _ => fun
  | [d1, d2, d3] => { results := [.lit (.bool false)], args := [d1, d2, d3] }
  | _ => none }
def SymbolSpreadsWrongFalsely : Prop := symbolSpreadsRow.holds Try.pinned (OpenSpec.ofChange symbolSpreadsWrong)

/-- 'cornhilllaw3.SymbolRunes': WHATEVER THE INPUT: true; the input reads as it did. -/
def symbolRunesSpec : ChangeSpec := { name := "symbolRunes", fn := fun _ => fun
  | [d] => { results := [.lit (.bool true)], args := [d] }
  | _ => none }
def symbolRunesRow : OpenClaim := { program := "ytfhegnmfkmolbaa", sum := "e140e9753481b819794425a49c7cdb8f43e9fdafad55b55114735149f7ab201e", func := "cornhill/cornhilllaw3.SymbolRunes", spec := "symbolRunes", apart := false }
def SymbolRunesSaid : Prop := symbolRunesRow.holds Try.pinned (OpenSpec.ofChange symbolRunesSpec)

/-- ITS FALSE NEIGHBOUR: 'it returns false'. Refute it at one input. -/
def symbolRunesWrong : ChangeSpec := { name := "symbolRunes", fn := fun _ => fun
  | [d] => { results := [.lit (.bool false)], args := [d] }
  | _ => none }
def SymbolRunesWrongFalsely : Prop := symbolRunesRow.holds Try.pinned (OpenSpec.ofChange symbolRunesWrong)

/- THE SECOND FORM. 'bulk': how many values and letters a reading holds, each counted each time it is reached (what is shared counts as often as it is met; a slice's spare places count too). A statement '..UptoSaid' is the law's where the arguments, and the package variables that the reading takes, are together of bulk at most 1048576: NARROWER than '..Said'. Prove '..Said' where nothing that the law and all that it calls make is longer than what came in: it says more and counts as full. Else prove '..UptoSaid'. A law counts once. -/
mutual
def uptoBulk {H : Type} : DataW H → Nat
  | .lit (.string bytes) => bytes.length + 1
  | .lit _ => 1
  | .nil => 1
  | .ptr d => uptoBulk d + 1
  | .slice elems spare => uptoBulkAll elems + uptoBulkAll spare + 1
  | .agg parts => uptoBulkAll parts + 1
  | .iface _ d => uptoBulk d + 1
  | .map entries => uptoBulkEntries entries + 1
  | .held _ => 1
def uptoBulkAll {H : Type} : List (DataW H) → Nat
  | [] => 0
  | d :: r => uptoBulk d + uptoBulkAll r
def uptoBulkEntries {H : Type} : List (Lit × DataW H) → Nat
  | [] => 0
  | x :: r => uptoBulkEntry x + uptoBulkEntries r
def uptoBulkEntry {H : Type} : Lit × DataW H → Nat
  | (.string bytes, d) => bytes.length + uptoBulk d + 1
  | (_, d) => uptoBulk d + 1
 end
def uptoSmall : (H : Type) → List (DataW H) → Bool := fun _ ds => decide (uptoBulkAll ds ≤ 1048576)
def OpenSpec.upto (s : _root_.Go.ChangeSpec) : _root_.Go.OpenSpec := { _root_.Go.OpenSpec.ofChange s with cond := some uptoSmall }

/-- 'cornhilllaw3.SymbolNumbers', WHERE WHAT IT READS IS OF BULK AT MOST 1048576: true; the input reads as it did. -/
def symbolNumbersUptoRow : OpenClaim := { program := "ytfhegnmfkmolbaa", sum := "e140e9753481b819794425a49c7cdb8f43e9fdafad55b55114735149f7ab201e", func := "cornhill/cornhilllaw3.SymbolNumbers", spec := "symbolNumbers", apart := false, narrowed := true }
def SymbolNumbersUptoSaid : Prop := symbolNumbersUptoRow.holds Try.pinned (OpenSpec.upto symbolNumbersSpec)

/-- 'cornhilllaw3.SymbolTells', WHERE WHAT IT READS IS OF BULK AT MOST 1048576: true; the input reads as it did. -/
def symbolTellsUptoRow : OpenClaim := { program := "ytfhegnmfkmolbaa", sum := "e140e9753481b819794425a49c7cdb8f43e9fdafad55b55114735149f7ab201e", func := "cornhill/cornhilllaw3.SymbolTells", spec := "symbolTells", apart := false, narrowed := true }
def SymbolTellsUptoSaid : Prop := symbolTellsUptoRow.holds Try.pinned (OpenSpec.upto symbolTellsSpec)

/-- 'cornhilllaw3.SymbolBack', WHERE WHAT IT READS IS OF BULK AT MOST 1048576: true; the input reads as it did. -/
def symbolBackUptoRow : OpenClaim := { program := "ytfhegnmfkmolbaa", sum := "e140e9753481b819794425a49c7cdb8f43e9fdafad55b55114735149f7ab201e", func := "cornhill/cornhilllaw3.SymbolBack", spec := "symbolBack", apart := false, narrowed := true }
def SymbolBackUptoSaid : Prop := symbolBackUptoRow.holds Try.pinned (OpenSpec.upto symbolBackSpec)

/-- 'cornhilllaw3.SymbolMonths', WHERE WHAT IT READS IS OF BULK AT MOST 1048576: true; the input reads as it did. -/
def symbolMonthsUptoRow : OpenClaim := { program := "ytfhegnmfkmolbaa", sum := "e140e9753481b819794425a49c7cdb8f43e9fdafad55b55114735149f7ab201e", func := "cornhill/cornhilllaw3.SymbolMonths", spec := "symbolMonths", apart := false, narrowed := true }
def SymbolMonthsUptoSaid : Prop := symbolMonthsUptoRow.holds Try.pinned (OpenSpec.upto symbolMonthsSpec)

/-- 'cornhilllaw3.SymbolSpreads', WHERE WHAT IT READS IS OF BULK AT MOST 1048576: true; the input reads as it did. -/
def symbolSpreadsUptoRow : OpenClaim := { program := "ytfhegnmfkmolbaa", sum := "e140e9753481b819794425a49c7cdb8f43e9fdafad55b55114735149f7ab201e", func := "cornhill/cornhilllaw3.SymbolSpreads", spec := "symbolSpreads", apart := false, narrowed := true }
def SymbolSpreadsUptoSaid : Prop := symbolSpreadsUptoRow.holds Try.pinned (OpenSpec.upto symbolSpreadsSpec)

/-- 'cornhilllaw3.SymbolRunes', WHERE WHAT IT READS IS OF BULK AT MOST 1048576: true; the input reads as it did. -/
def symbolRunesUptoRow : OpenClaim := { program := "ytfhegnmfkmolbaa", sum := "e140e9753481b819794425a49c7cdb8f43e9fdafad55b55114735149f7ab201e", func := "cornhill/cornhilllaw3.SymbolRunes", spec := "symbolRunes", apart := false, narrowed := true }
def SymbolRunesUptoSaid : Prop := symbolRunesUptoRow.holds Try.pinned (OpenSpec.upto symbolRunesSpec)

end Rows
end Go.Proofs.Ytfhegnmfkmolbaa
