/-
  No cell of these rows narrows 'for every input' (looked for: loops, veiled, ifaces, maps, wideKeys, modest, calm, conditions, laid).
  DERIVED. THE GIVEN ROWS OF THIS SEAT. 5 by the template 'for every input the law returns true; each argument reads behind the call as it read before'; 0 by the template 'total and deterministic' (their statements: YtcfmnmknbebfnaaTotals.lean).
  GIVEN WITH THE SEED: the statements are not yours to turn. If you find one false, say at which input.
  Laid BY PROGRAM, IN A SANDBOX (cutbox-rows.mjs): the forced cells as the released guide's own fill.sh prints them over the translation 84d7afe99c59caa0… (all of the seat's roots in one cut). By AI agents, Wed Nov 11 2026. No macro, syntax, notation, axiom, sorry.
-/
import Derived.Test.YtcfmnmknbebfnaaChecked
import GoSem.Claim
import GoSem.ClaimJoined
import GoSem.ClaimMapViews
import Derived.JoinedTies
import Derived.KernelRfl
namespace Go.Proofs.Ytcfmnmknbebfnaa
/- THE CELL 'sum', in the pinned program and in every row, IS THE sha256 OF THE DUMP (.gsa) THAT YtcfmnmknbebfnaaProg.lean LOADS. Nothing in Lean hashes anything: it is a label: what it is worth is what the hold of that sum in a sandbox is worth. -/
noncomputable def Try.pinned : Pinned := { name := "ytcfmnmknbebfnaa", sum := "84d7afe99c59caa08c9469292602b46260d4fe933fb962c8a1b7efcaea62f278", checked := Try.checked }
namespace Rows
def none {H : Type} : Left H := { results := [], args := [] }

/-- 'cornhilllaw8.LevelNumbers': WHATEVER THE INPUT: true; the input reads as it did. -/
def levelNumbersSpec : ChangeSpec := { name := "levelNumbers", fn := fun _ => fun
  | [] => { results := [.lit (.bool true)], args := [] }
  | _ => none }
def levelNumbersRow : OpenClaim := { program := "ytcfmnmknbebfnaa", sum := "84d7afe99c59caa08c9469292602b46260d4fe933fb962c8a1b7efcaea62f278", func := "cornhill/cornhilllaw8.LevelNumbers", spec := "levelNumbers", apart := false }
def LevelNumbersSaid : Prop := levelNumbersRow.holds Try.pinned (OpenSpec.ofChange levelNumbersSpec)

/-- ITS FALSE NEIGHBOUR: 'it returns false'. Refute it at one input. -/
def levelNumbersWrong : ChangeSpec := { name := "levelNumbers", fn := fun _ => fun
  | [] => { results := [.lit (.bool false)], args := [] }
  | _ => none }
def LevelNumbersWrongFalsely : Prop := levelNumbersRow.holds Try.pinned (OpenSpec.ofChange levelNumbersWrong)

/-- 'cornhilllaw8.LevelPlays': WHATEVER THE INPUT: true; the input reads as it did. -/
def levelPlaysSpec : ChangeSpec := { name := "levelPlays", fn := fun _ => fun
  | [d1, d2] => { results := [.lit (.bool true)], args := [d1, d2] }
  | _ => none }
def levelPlaysRow : OpenClaim := { program := "ytcfmnmknbebfnaa", sum := "84d7afe99c59caa08c9469292602b46260d4fe933fb962c8a1b7efcaea62f278", func := "cornhill/cornhilllaw8.LevelPlays", spec := "levelPlays", apart := false }
def LevelPlaysSaid : Prop := levelPlaysRow.holds Try.pinned (OpenSpec.ofChange levelPlaysSpec)

/-- ITS FALSE NEIGHBOUR: 'it returns false'. Refute it at one input. -/
def levelPlaysWrong : ChangeSpec := { name := "levelPlays", fn := fun _ => fun
  | [d1, d2] => { results := [.lit (.bool false)], args := [d1, d2] }
  | _ => none }
def LevelPlaysWrongFalsely : Prop := levelPlaysRow.holds Try.pinned (OpenSpec.ofChange levelPlaysWrong)

/-- 'cornhilllaw8.LevelOrders': WHATEVER THE INPUT: true; the input reads as it did. -/
def levelOrdersSpec : ChangeSpec := { name := "levelOrders", fn := fun _ => fun
  | [d1, d2] => { results := [.lit (.bool true)], args := [d1, d2] }
  | _ => none }
def levelOrdersRow : OpenClaim := { program := "ytcfmnmknbebfnaa", sum := "84d7afe99c59caa08c9469292602b46260d4fe933fb962c8a1b7efcaea62f278", func := "cornhill/cornhilllaw8.LevelOrders", spec := "levelOrders", apart := false }
def LevelOrdersSaid : Prop := levelOrdersRow.holds Try.pinned (OpenSpec.ofChange levelOrdersSpec)

/-- ITS FALSE NEIGHBOUR: 'it returns false'. Refute it at one input. -/
def levelOrdersWrong : ChangeSpec := { name := "levelOrders", fn := fun _ => fun
  | [d1, d2] => { results := [.lit (.bool false)], args := [d1, d2] }
  | _ => none }
def LevelOrdersWrongFalsely : Prop := levelOrdersRow.holds Try.pinned (OpenSpec.ofChange levelOrdersWrong)

/-- 'cornhilllaw8.LevelRooms': WHATEVER THE INPUT: true; the input reads as it did. -/
def levelRoomsSpec : ChangeSpec := { name := "levelRooms", fn := fun _ => fun
  | [d1, d2] => { results := [.lit (.bool true)], args := [d1, d2] }
  | _ => none }
def levelRoomsRow : OpenClaim := { program := "ytcfmnmknbebfnaa", sum := "84d7afe99c59caa08c9469292602b46260d4fe933fb962c8a1b7efcaea62f278", func := "cornhill/cornhilllaw8.LevelRooms", spec := "levelRooms", apart := false }
def LevelRoomsSaid : Prop := levelRoomsRow.holds Try.pinned (OpenSpec.ofChange levelRoomsSpec)

/-- ITS FALSE NEIGHBOUR: 'it returns false'. Refute it at one input. -/
def levelRoomsWrong : ChangeSpec := { name := "levelRooms", fn := fun _ => fun
  | [d1, d2] => { results := [.lit (.bool false)], args := [d1, d2] }
  | _ => none }
def LevelRoomsWrongFalsely : Prop := levelRoomsRow.holds Try.pinned (OpenSpec.ofChange levelRoomsWrong)

/-- 'cornhilllaw8.LevelRefused': WHATEVER THE INPUT: true; the input reads as it did. -/
def levelRefusedSpec : ChangeSpec := { name := "levelRefused", fn := fun _ => fun
  | [d1, d2] => { results := [.lit (.bool true)], args := [d1, d2] }
  | _ => none }
def levelRefusedRow : OpenClaim := { program := "ytcfmnmknbebfnaa", sum := "84d7afe99c59caa08c9469292602b46260d4fe933fb962c8a1b7efcaea62f278", func := "cornhill/cornhilllaw8.LevelRefused", spec := "levelRefused", apart := false }
def LevelRefusedSaid : Prop := levelRefusedRow.holds Try.pinned (OpenSpec.ofChange levelRefusedSpec)

/-- ITS FALSE NEIGHBOUR: 'it returns false'. Refute it at one input. -/
def levelRefusedWrong : ChangeSpec := { name := "levelRefused", fn := fun _ => fun
  | [d1, d2] => { results := [.lit (.bool false)], args := [d1, d2] }
  | _ => none }
def LevelRefusedWrongFalsely : Prop := levelRefusedRow.holds Try.pinned (OpenSpec.ofChange levelRefusedWrong)

/- THE SECOND FORM. 'bulk': how many values and letters a reading holds, each counted each time it is reached (what is shared counts as often as it is met; a slice's spare places count too). A statement '..UptoSaid' is the law's where the arguments, and the package variables that the reading takes, are together of bulk at most 1048576: NARROWER than '..Said'. Prove '..Said' where nothing that the law and all that it calls make is longer than what came in: it says more and counts as full. Else prove '..UptoSaid'. A law counts once. -/
mutual
def uptoBulk {H : Type} : DataW H → Nat
  | .lit (.string bytes) => bytes.length + 1
  | .lit _ => 1
  | .nil => 1
  | .ptr d => uptoBulk d + 1
  | .slice elems spare => uptoBulkAll elems + uptoBulkAll spare + 1
  | .agg parts => uptoBulkAll parts + 1
  | .iface _ d => uptoBulk d + 1
  | .map entries => uptoBulkEntries entries + 1
  | .held _ => 1
def uptoBulkAll {H : Type} : List (DataW H) → Nat
  | [] => 0
  | d :: r => uptoBulk d + uptoBulkAll r
def uptoBulkEntries {H : Type} : List (Lit × DataW H) → Nat
  | [] => 0
  | x :: r => uptoBulkEntry x + uptoBulkEntries r
def uptoBulkEntry {H : Type} : Lit × DataW H → Nat
  | (.string bytes, d) => bytes.length + uptoBulk d + 1
  | (_, d) => uptoBulk d + 1
 end
def uptoSmall : (H : Type) → List (DataW H) → Bool := fun _ ds => decide (uptoBulkAll ds ≤ 1048576)
def OpenSpec.upto (s : _root_.Go.ChangeSpec) : _root_.Go.OpenSpec := { _root_.Go.OpenSpec.ofChange s with cond := some uptoSmall }

/-- 'cornhilllaw8.LevelNumbers', WHERE WHAT IT READS IS OF BULK AT MOST 1048576: true; the input reads as it did. -/
def levelNumbersUptoRow : OpenClaim := { program := "ytcfmnmknbebfnaa", sum := "84d7afe99c59caa08c9469292602b46260d4fe933fb962c8a1b7efcaea62f278", func := "cornhill/cornhilllaw8.LevelNumbers", spec := "levelNumbers", apart := false, narrowed := true }
def LevelNumbersUptoSaid : Prop := levelNumbersUptoRow.holds Try.pinned (OpenSpec.upto levelNumbersSpec)

/-- 'cornhilllaw8.LevelPlays', WHERE WHAT IT READS IS OF BULK AT MOST 1048576: true; the input reads as it did. -/
def levelPlaysUptoRow : OpenClaim := { program := "ytcfmnmknbebfnaa", sum := "84d7afe99c59caa08c9469292602b46260d4fe933fb962c8a1b7efcaea62f278", func := "cornhill/cornhilllaw8.LevelPlays", spec := "levelPlays", apart := false, narrowed := true }
def LevelPlaysUptoSaid : Prop := levelPlaysUptoRow.holds Try.pinned (OpenSpec.upto levelPlaysSpec)

/-- 'cornhilllaw8.LevelOrders', WHERE WHAT IT READS IS OF BULK AT MOST 1048576: true; the input reads as it did. -/
def levelOrdersUptoRow : OpenClaim := { program := "ytcfmnmknbebfnaa", sum := "84d7afe99c59caa08c9469292602b46260d4fe933fb962c8a1b7efcaea62f278", func := "cornhill/cornhilllaw8.LevelOrders", spec := "levelOrders", apart := false, narrowed := true }
def LevelOrdersUptoSaid : Prop := levelOrdersUptoRow.holds Try.pinned (OpenSpec.upto levelOrdersSpec)

/-- 'cornhilllaw8.LevelRooms', WHERE WHAT IT READS IS OF BULK AT MOST 1048576: true; the input reads as it did. -/
def levelRoomsUptoRow : OpenClaim := { program := "ytcfmnmknbebfnaa", sum := "84d7afe99c59caa08c9469292602b46260d4fe933fb962c8a1b7efcaea62f278", func := "cornhill/cornhilllaw8.LevelRooms", spec := "levelRooms", apart := false, narrowed := true }
def LevelRoomsUptoSaid : Prop := levelRoomsUptoRow.holds Try.pinned (OpenSpec.upto levelRoomsSpec)

/-- 'cornhilllaw8.LevelRefused', WHERE WHAT IT READS IS OF BULK AT MOST 1048576: true; the input reads as it did. -/
def levelRefusedUptoRow : OpenClaim := { program := "ytcfmnmknbebfnaa", sum := "84d7afe99c59caa08c9469292602b46260d4fe933fb962c8a1b7efcaea62f278", func := "cornhill/cornhilllaw8.LevelRefused", spec := "levelRefused", apart := false, narrowed := true }
def LevelRefusedUptoSaid : Prop := levelRefusedUptoRow.holds Try.pinned (OpenSpec.upto levelRefusedSpec)

end Rows
end Go.Proofs.Ytcfmnmknbebfnaa
