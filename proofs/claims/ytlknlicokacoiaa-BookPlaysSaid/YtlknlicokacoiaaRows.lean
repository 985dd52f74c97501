/-
  No cell of these rows narrows 'for every input' (looked for: loops, veiled, ifaces, maps, wideKeys, modest, calm, conditions, laid).
  DERIVED. THE GIVEN ROWS OF THIS SEAT. 7 by the template 'for every input the law returns true; each argument reads behind the call as it read before'; 0 by the template 'total and deterministic' (their statements: YtlknlicokacoiaaTotals.lean).
  GIVEN WITH THE SEED: the statements are not yours to turn. If you find one false, say at which input.
  Laid BY PROGRAM, IN A SANDBOX (cutbox-rows.mjs): the forced cells as the released guide's own fill.sh prints them over the translation 4efb7c8a87412afa… (all of the seat's roots in one cut). By AI agents, Wed Nov 11 2026. No macro, syntax, notation, axiom, sorry.
-/
import Derived.Test.YtlknlicokacoiaaChecked
import GoSem.Claim
import GoSem.ClaimJoined
import GoSem.ClaimMapViews
import Derived.JoinedTies
import Derived.KernelRfl
namespace Go.Proofs.Ytlknlicokacoiaa
/- THE CELL 'sum', in the pinned program and in every row, IS THE sha256 OF THE DUMP (.gsa) THAT YtlknlicokacoiaaProg.lean LOADS. Nothing in Lean hashes anything: it is a label: what it is worth is what the hold of that sum in a sandbox is worth. -/
noncomputable def Try.pinned : Pinned := { name := "ytlknlicokacoiaa", sum := "4efb7c8a87412afa6a714172b52d47cb6c5673c1ab0e9ae404199afb9aff8964", checked := Try.checked }
namespace Rows
def none {H : Type} : Left H := { results := [], args := [] }

/-- 'cornhilllaw9.BookNumbers': WHATEVER THE INPUT: true; the input reads as it did. -/
def bookNumbersSpec : ChangeSpec := { name := "bookNumbers", fn := fun _ => fun
  | [] => { results := [.lit (.bool true)], args := [] }
  | _ => none }
def bookNumbersRow : OpenClaim := { program := "ytlknlicokacoiaa", sum := "4efb7c8a87412afa6a714172b52d47cb6c5673c1ab0e9ae404199afb9aff8964", func := "cornhill/cornhilllaw9.BookNumbers", spec := "bookNumbers", inPlace := ["slices.overlaps[cornhill/book.row]"], apart := false }
def BookNumbersSaid : Prop := bookNumbersRow.holds Try.pinned (OpenSpec.ofChange bookNumbersSpec)

/-- ITS FALSE NEIGHBOUR: 'it returns false'. Refute it at one input. -/
def bookNumbersWrong : ChangeSpec := { name := "bookNumbers", fn := fun _ => fun
  | [] => { results := [.lit (.bool false)], args := [] }
  | _ => none }
def BookNumbersWrongFalsely : Prop := bookNumbersRow.holds Try.pinned (OpenSpec.ofChange bookNumbersWrong)

/-- 'cornhilllaw9.BookPlays': WHATEVER THE INPUT: true; the input reads as it did. -/
def bookPlaysSpec : ChangeSpec := { name := "bookPlays", fn := fun _ => fun
  | [d] => { results := [.lit (.bool true)], args := [d] }
  | _ => none }
def bookPlaysRow : OpenClaim := { program := "ytlknlicokacoiaa", sum := "4efb7c8a87412afa6a714172b52d47cb6c5673c1ab0e9ae404199afb9aff8964", func := "cornhill/cornhilllaw9.BookPlays", spec := "bookPlays", inPlace := ["slices.overlaps[cornhill/book.row]"], apart := false }
def BookPlaysSaid : Prop := bookPlaysRow.holds Try.pinned (OpenSpec.ofChange bookPlaysSpec)

/-- ITS FALSE NEIGHBOUR: 'it returns false'. Refute it at one input. -/
def bookPlaysWrong : ChangeSpec := { name := "bookPlays", fn := fun _ => fun
  | [d] => { results := [.lit (.bool false)], args := [d] }
  | _ => none }
def BookPlaysWrongFalsely : Prop := bookPlaysRow.holds Try.pinned (OpenSpec.ofChange bookPlaysWrong)

/-- 'cornhilllaw9.BookSmall': WHATEVER THE INPUT: true; the input reads as it did. -/
def bookSmallSpec : ChangeSpec := { name := "bookSmall", fn := fun _ => fun
  | [d] => { results := [.lit (.bool true)], args := [d] }
  | _ => none }
def bookSmallRow : OpenClaim := { program := "ytlknlicokacoiaa", sum := "4efb7c8a87412afa6a714172b52d47cb6c5673c1ab0e9ae404199afb9aff8964", func := "cornhill/cornhilllaw9.BookSmall", spec := "bookSmall", inPlace := ["slices.overlaps[cornhill/book.row]"], apart := false }
def BookSmallSaid : Prop := bookSmallRow.holds Try.pinned (OpenSpec.ofChange bookSmallSpec)

/-- ITS FALSE NEIGHBOUR: 'it returns false'. Refute it at one input. -/
def bookSmallWrong : ChangeSpec := { name := "bookSmall", fn := fun _ => fun
  | [d] => { results := [.lit (.bool false)], args := [d] }
  | _ => none }
def BookSmallWrongFalsely : Prop := bookSmallRow.holds Try.pinned (OpenSpec.ofChange bookSmallWrong)

/-- 'cornhilllaw9.BookRules': WHATEVER THE INPUT: true; the input reads as it did. -/
def bookRulesSpec : ChangeSpec := { name := "bookRules", fn := fun _ => fun
  | [d] => { results := [.lit (.bool true)], args := [d] }
  | _ => none }
def bookRulesRow : OpenClaim := { program := "ytlknlicokacoiaa", sum := "4efb7c8a87412afa6a714172b52d47cb6c5673c1ab0e9ae404199afb9aff8964", func := "cornhill/cornhilllaw9.BookRules", spec := "bookRules", inPlace := ["slices.overlaps[cornhill/book.row]"], apart := false }
def BookRulesSaid : Prop := bookRulesRow.holds Try.pinned (OpenSpec.ofChange bookRulesSpec)

/-- ITS FALSE NEIGHBOUR: 'it returns false'. Refute it at one input. -/
def bookRulesWrong : ChangeSpec := { name := "bookRules", fn := fun _ => fun
  | [d] => { results := [.lit (.bool false)], args := [d] }
  | _ => none }
def BookRulesWrongFalsely : Prop := bookRulesRow.holds Try.pinned (OpenSpec.ofChange bookRulesWrong)

/-- 'cornhilllaw9.BookMirror': WHATEVER THE INPUT: true; the input reads as it did. -/
def bookMirrorSpec : ChangeSpec := { name := "bookMirror", fn := fun _ => fun
  | [d] => { results := [.lit (.bool true)], args := [d] }
  | _ => none }
def bookMirrorRow : OpenClaim := { program := "ytlknlicokacoiaa", sum := "4efb7c8a87412afa6a714172b52d47cb6c5673c1ab0e9ae404199afb9aff8964", func := "cornhill/cornhilllaw9.BookMirror", spec := "bookMirror", inPlace := ["slices.overlaps[cornhill/book.row]"], apart := false }
def BookMirrorSaid : Prop := bookMirrorRow.holds Try.pinned (OpenSpec.ofChange bookMirrorSpec)

/-- ITS FALSE NEIGHBOUR: 'it returns false'. Refute it at one input. -/
def bookMirrorWrong : ChangeSpec := { name := "bookMirror", fn := fun _ => fun
  | [d] => { results := [.lit (.bool false)], args := [d] }
  | _ => none }
def BookMirrorWrongFalsely : Prop := bookMirrorRow.holds Try.pinned (OpenSpec.ofChange bookMirrorWrong)

/-- 'cornhilllaw9.BookTops': WHATEVER THE INPUT: true; the input reads as it did. -/
def bookTopsSpec : ChangeSpec := { name := "bookTops", fn := fun _ => fun
  | [d] => { results := [.lit (.bool true)], args := [d] }
  | _ => none }
def bookTopsRow : OpenClaim := { program := "ytlknlicokacoiaa", sum := "4efb7c8a87412afa6a714172b52d47cb6c5673c1ab0e9ae404199afb9aff8964", func := "cornhill/cornhilllaw9.BookTops", spec := "bookTops", inPlace := ["slices.overlaps[cornhill/book.row]"], apart := false }
def BookTopsSaid : Prop := bookTopsRow.holds Try.pinned (OpenSpec.ofChange bookTopsSpec)

/-- ITS FALSE NEIGHBOUR: 'it returns false'. Refute it at one input. -/
def bookTopsWrong : ChangeSpec := { name := "bookTops", fn := fun _ => fun
  | [d] => { results := [.lit (.bool false)], args := [d] }
  | _ => none }
def BookTopsWrongFalsely : Prop := bookTopsRow.holds Try.pinned (OpenSpec.ofChange bookTopsWrong)

/-- 'cornhilllaw9.BookRefused': WHATEVER THE INPUT: true; the input reads as it did. -/
def bookRefusedSpec : ChangeSpec := { name := "bookRefused", fn := fun _ => fun
  | [d] => { results := [.lit (.bool true)], args := [d] }
  | _ => none }
def bookRefusedRow : OpenClaim := { program := "ytlknlicokacoiaa", sum := "4efb7c8a87412afa6a714172b52d47cb6c5673c1ab0e9ae404199afb9aff8964", func := "cornhill/cornhilllaw9.BookRefused", spec := "bookRefused", inPlace := ["slices.overlaps[cornhill/book.row]"], apart := false }
def BookRefusedSaid : Prop := bookRefusedRow.holds Try.pinned (OpenSpec.ofChange bookRefusedSpec)

/-- ITS FALSE NEIGHBOUR: 'it returns false'. Refute it at one input. -/
def bookRefusedWrong : ChangeSpec := { name := "bookRefused", fn := fun _ => fun
  | [d] => { results := [.lit (.bool false)], args := [d] }
  | _ => none }
def BookRefusedWrongFalsely : Prop := bookRefusedRow.holds Try.pinned (OpenSpec.ofChange bookRefusedWrong)

/- THE SECOND FORM. 'bulk': how many values and letters a reading holds, each counted each time it is reached (what is shared counts as often as it is met; a slice's spare places count too). A statement '..UptoSaid' is the law's where the arguments, and the package variables that the reading takes, are together of bulk at most 1048576: NARROWER than '..Said'. Prove '..Said' where nothing that the law and all that it calls make is longer than what came in: it says more and counts as full. Else prove '..UptoSaid'. A law counts once. -/
mutual
def uptoBulk {H : Type} : DataW H → Nat
  | .lit (.string bytes) => bytes.length + 1
  | .lit _ => 1
  | .nil => 1
  | .ptr d => uptoBulk d + 1
  | .slice elems spare => uptoBulkAll elems + uptoBulkAll spare + 1
  | .agg parts => uptoBulkAll parts + 1
  | .iface _ d => uptoBulk d + 1
  | .map entries => uptoBulkEntries entries + 1
  | .held _ => 1
def uptoBulkAll {H : Type} : List (DataW H) → Nat
  | [] => 0
  | d :: r => uptoBulk d + uptoBulkAll r
def uptoBulkEntries {H : Type} : List (Lit × DataW H) → Nat
  | [] => 0
  | x :: r => uptoBulkEntry x + uptoBulkEntries r
def uptoBulkEntry {H : Type} : Lit × DataW H → Nat
  | (.string bytes, d) => bytes.length + uptoBulk d + 1
  | (_, d) => uptoBulk d + 1
 end
def uptoSmall : (H : Type) → List (DataW H) → Bool := fun _ ds => decide (uptoBulkAll ds ≤ 1048576)
def OpenSpec.upto (s : _root_.Go.ChangeSpec) : _root_.Go.OpenSpec := { _root_.Go.OpenSpec.ofChange s with cond := some uptoSmall }

/-- 'cornhilllaw9.BookNumbers', WHERE WHAT IT READS IS OF BULK AT MOST 1048576: true; the input reads as it did. -/
def bookNumbersUptoRow : OpenClaim := { program := "ytlknlicokacoiaa", sum := "4efb7c8a87412afa6a714172b52d47cb6c5673c1ab0e9ae404199afb9aff8964", func := "cornhill/cornhilllaw9.BookNumbers", spec := "bookNumbers", inPlace := ["slices.overlaps[cornhill/book.row]"], apart := false, narrowed := true }
def BookNumbersUptoSaid : Prop := bookNumbersUptoRow.holds Try.pinned (OpenSpec.upto bookNumbersSpec)

/-- 'cornhilllaw9.BookPlays', WHERE WHAT IT READS IS OF BULK AT MOST 1048576: true; the input reads as it did. -/
def bookPlaysUptoRow : OpenClaim := { program := "ytlknlicokacoiaa", sum := "4efb7c8a87412afa6a714172b52d47cb6c5673c1ab0e9ae404199afb9aff8964", func := "cornhill/cornhilllaw9.BookPlays", spec := "bookPlays", inPlace := ["slices.overlaps[cornhill/book.row]"], apart := false, narrowed := true }
def BookPlaysUptoSaid : Prop := bookPlaysUptoRow.holds Try.pinned (OpenSpec.upto bookPlaysSpec)

/-- 'cornhilllaw9.BookSmall', WHERE WHAT IT READS IS OF BULK AT MOST 1048576: true; the input reads as it did. -/
def bookSmallUptoRow : OpenClaim := { program := "ytlknlicokacoiaa", sum := "4efb7c8a87412afa6a714172b52d47cb6c5673c1ab0e9ae404199afb9aff8964", func := "cornhill/cornhilllaw9.BookSmall", spec := "bookSmall", inPlace := ["slices.overlaps[cornhill/book.row]"], apart := false, narrowed := true }
def BookSmallUptoSaid : Prop := bookSmallUptoRow.holds Try.pinned (OpenSpec.upto bookSmallSpec)

/-- 'cornhilllaw9.BookRules', WHERE WHAT IT READS IS OF BULK AT MOST 1048576: true; the input reads as it did. -/
def bookRulesUptoRow : OpenClaim := { program := "ytlknlicokacoiaa", sum := "4efb7c8a87412afa6a714172b52d47cb6c5673c1ab0e9ae404199afb9aff8964", func := "cornhill/cornhilllaw9.BookRules", spec := "bookRules", inPlace := ["slices.overlaps[cornhill/book.row]"], apart := false, narrowed := true }
def BookRulesUptoSaid : Prop := bookRulesUptoRow.holds Try.pinned (OpenSpec.upto bookRulesSpec)

/-- 'cornhilllaw9.BookMirror', WHERE WHAT IT READS IS OF BULK AT MOST 1048576: true; the input reads as it did. -/
def bookMirrorUptoRow : OpenClaim := { program := "ytlknlicokacoiaa", sum := "4efb7c8a87412afa6a714172b52d47cb6c5673c1ab0e9ae404199afb9aff8964", func := "cornhill/cornhilllaw9.BookMirror", spec := "bookMirror", inPlace := ["slices.overlaps[cornhill/book.row]"], apart := false, narrowed := true }
def BookMirrorUptoSaid : Prop := bookMirrorUptoRow.holds Try.pinned (OpenSpec.upto bookMirrorSpec)

/-- 'cornhilllaw9.BookTops', WHERE WHAT IT READS IS OF BULK AT MOST 1048576: true; the input reads as it did. -/
def bookTopsUptoRow : OpenClaim := { program := "ytlknlicokacoiaa", sum := "4efb7c8a87412afa6a714172b52d47cb6c5673c1ab0e9ae404199afb9aff8964", func := "cornhill/cornhilllaw9.BookTops", spec := "bookTops", inPlace := ["slices.overlaps[cornhill/book.row]"], apart := false, narrowed := true }
def BookTopsUptoSaid : Prop := bookTopsUptoRow.holds Try.pinned (OpenSpec.upto bookTopsSpec)

/-- 'cornhilllaw9.BookRefused', WHERE WHAT IT READS IS OF BULK AT MOST 1048576: true; the input reads as it did. -/
def bookRefusedUptoRow : OpenClaim := { program := "ytlknlicokacoiaa", sum := "4efb7c8a87412afa6a714172b52d47cb6c5673c1ab0e9ae404199afb9aff8964", func := "cornhill/cornhilllaw9.BookRefused", spec := "bookRefused", inPlace := ["slices.overlaps[cornhill/book.row]"], apart := false, narrowed := true }
def BookRefusedUptoSaid : Prop := bookRefusedUptoRow.holds Try.pinned (OpenSpec.upto bookRefusedSpec)

end Rows
end Go.Proofs.Ytlknlicokacoiaa
