/-
  No cell of these rows narrows 'for every input' (looked for: loops, veiled, ifaces, maps, wideKeys, modest, calm, conditions, laid).
  DERIVED. THE GIVEN ROWS OF THIS SEAT. 5 by the template 'for every input the law returns true; each argument reads behind the call as it read before'; 0 by the template 'total and deterministic' (their statements: YtbcfdjpnckikdaaTotals.lean).
  GIVEN WITH THE SEED: the statements are not yours to turn. If you find one false, say at which input.
  Laid BY PROGRAM, IN A SANDBOX (cutbox-rows.mjs): the forced cells as the released guide's own fill.sh prints them over the translation 6ea9111f55626b81… (all of the seat's roots in one cut). By AI agents, Wed Nov 11 2026. No macro, syntax, notation, axiom, sorry.
-/
import Derived.Test.YtbcfdjpnckikdaaChecked
import GoSem.Claim
import GoSem.ClaimJoined
import GoSem.ClaimMapViews
import Derived.JoinedTies
import Derived.KernelRfl
namespace Go.Proofs.Ytbcfdjpnckikdaa
/- THE CELL 'sum', in the pinned program and in every row, IS THE sha256 OF THE DUMP (.gsa) THAT YtbcfdjpnckikdaaProg.lean LOADS. Nothing in Lean hashes anything: it is a label: what it is worth is what the hold of that sum in a sandbox is worth. -/
noncomputable def Try.pinned : Pinned := { name := "ytbcfdjpnckikdaa", sum := "6ea9111f55626b81e55d94a27a10b760fc4fd549a04d6db8bf12676b4e955031", checked := Try.checked }
namespace Rows
def none {H : Type} : Left H := { results := [], args := [] }

/-- 'twinshaftlaw06.OpNames': WHATEVER THE INPUT: true; the input reads as it did. -/
def opNamesSpec : ChangeSpec := { name := "opNames", fn := fun _ => fun
  | [d1, d2] => { results := [.lit (.bool true)], args := [d1, d2] }
  | _ => none }
def opNamesRow : OpenClaim := { program := "ytbcfdjpnckikdaa", sum := "6ea9111f55626b81e55d94a27a10b760fc4fd549a04d6db8bf12676b4e955031", func := "twinshaft/twinshaftlaw06.OpNames", spec := "opNames", unfollowed := true, recurses := true, apart := false }
def OpNamesSaid : Prop := opNamesRow.holds Try.pinned (OpenSpec.ofChange opNamesSpec)

/-- ITS FALSE NEIGHBOUR: 'it returns false'. Refute it at one input. -/
def opNamesWrong : ChangeSpec := { name := "opNames", fn := fun _ => fun
  | [d1, d2] => { results := [.lit (.bool false)], args := [d1, d2] }
  | _ => none }
def OpNamesWrongFalsely : Prop := opNamesRow.holds Try.pinned (OpenSpec.ofChange opNamesWrong)

/-- 'twinshaftlaw06.OpChecks': WHATEVER THE INPUT: true; the input reads as it did. -/
def opChecksSpec : ChangeSpec := { name := "opChecks", fn := fun _ => fun
  | [d1, d2, d3, d4] => { results := [.lit (.bool true)], args := [d1, d2, d3, d4] }
  | _ => none }
def opChecksRow : OpenClaim := { program := "ytbcfdjpnckikdaa", sum := "6ea9111f55626b81e55d94a27a10b760fc4fd549a04d6db8bf12676b4e955031", func := "twinshaft/twinshaftlaw06.OpChecks", spec := "opChecks", unfollowed := true, recurses := true, apart := false }
def OpChecksSaid : Prop := opChecksRow.holds Try.pinned (OpenSpec.ofChange opChecksSpec)

/-- ITS FALSE NEIGHBOUR: 'it returns false'. Refute it at one input. -/
def opChecksWrong : ChangeSpec := { name := "opChecks", fn := fun _ => fun
  | [d1, d2, d3, d4] => { results := [.lit (.bool false)], args := [d1, d2, d3, d4] }
  | _ => none }
def OpChecksWrongFalsely : Prop := opChecksRow.holds Try.pinned (OpenSpec.ofChange opChecksWrong)

/-- 'twinshaftlaw06.OpKnown': WHATEVER THE INPUT: true; the input reads as it did. -/
def opKnownSpec : ChangeSpec := { name := "opKnown", fn := fun _ => fun
  | [] => { results := [.lit (.bool true)], args := [] }
  | _ => none }
def opKnownRow : OpenClaim := { program := "ytbcfdjpnckikdaa", sum := "6ea9111f55626b81e55d94a27a10b760fc4fd549a04d6db8bf12676b4e955031", func := "twinshaft/twinshaftlaw06.OpKnown", spec := "opKnown", unfollowed := true, recurses := true, apart := false }
def OpKnownSaid : Prop := opKnownRow.holds Try.pinned (OpenSpec.ofChange opKnownSpec)

/-- ITS FALSE NEIGHBOUR: 'it returns false'. Refute it at one input. -/
def opKnownWrong : ChangeSpec := { name := "opKnown", fn := fun _ => fun
  | [] => { results := [.lit (.bool false)], args := [] }
  | _ => none }
def OpKnownWrongFalsely : Prop := opKnownRow.holds Try.pinned (OpenSpec.ofChange opKnownWrong)

/-- 'twinshaftlaw06.OpFound': WHATEVER THE INPUT: true; the input reads as it did. -/
def opFoundSpec : ChangeSpec := { name := "opFound", fn := fun _ => fun
  | [d1, d2, d3] => { results := [.lit (.bool true)], args := [d1, d2, d3] }
  | _ => none }
def opFoundRow : OpenClaim := { program := "ytbcfdjpnckikdaa", sum := "6ea9111f55626b81e55d94a27a10b760fc4fd549a04d6db8bf12676b4e955031", func := "twinshaft/twinshaftlaw06.OpFound", spec := "opFound", unfollowed := true, recurses := true, apart := false }
def OpFoundSaid : Prop := opFoundRow.holds Try.pinned (OpenSpec.ofChange opFoundSpec)

/-- ITS FALSE NEIGHBOUR: 'it returns false'. Refute it at one input. -/
def opFoundWrong : ChangeSpec := { name := "opFound", fn := fun _ => fun
  | [d1, d2, d3] => { results := [.lit (.bool false)], args := [d1, d2, d3] }
  | _ => none }
def OpFoundWrongFalsely : Prop := opFoundRow.holds Try.pinned (OpenSpec.ofChange opFoundWrong)

/-- 'twinshaftlaw06.OpWithin': WHATEVER THE INPUT: true; the input reads as it did. -/
def opWithinSpec : ChangeSpec := { name := "opWithin", fn := fun _ => fun
  | [d1, d2, d3, d4, d5] => { results := [.lit (.bool true)], args := [d1, d2, d3, d4, d5] }
  | _ => none }
def opWithinRow : OpenClaim := { program := "ytbcfdjpnckikdaa", sum := "6ea9111f55626b81e55d94a27a10b760fc4fd549a04d6db8bf12676b4e955031", func := "twinshaft/twinshaftlaw06.OpWithin", spec := "opWithin", unfollowed := true, recurses := true, apart := false }
def OpWithinSaid : Prop := opWithinRow.holds Try.pinned (OpenSpec.ofChange opWithinSpec)

/-- ITS FALSE NEIGHBOUR: 'it returns false'. Refute it at one input. -/
def opWithinWrong : ChangeSpec := { name := "opWithin", fn := fun _ => fun
  | [d1, d2, d3, d4, d5] => { results := [.lit (.bool false)], args := [d1, d2, d3, d4, d5] }
  | _ => none }
def OpWithinWrongFalsely : Prop := opWithinRow.holds Try.pinned (OpenSpec.ofChange opWithinWrong)

/- THE SECOND FORM. 'bulk': how many values and letters a reading holds, each counted each time it is reached (what is shared counts as often as it is met; a slice's spare places count too). A statement '..UptoSaid' is the law's where the arguments, and the package variables that the reading takes, are together of bulk at most 1048576: NARROWER than '..Said'. Prove '..Said' where nothing that the law and all that it calls make is longer than what came in: it says more and counts as full. Else prove '..UptoSaid'. A law counts once. -/
mutual
def uptoBulk {H : Type} : DataW H → Nat
  | .lit (.string bytes) => bytes.length + 1
  | .lit _ => 1
  | .nil => 1
  | .ptr d => uptoBulk d + 1
  | .slice elems spare => uptoBulkAll elems + uptoBulkAll spare + 1
  | .agg parts => uptoBulkAll parts + 1
  | .iface _ d => uptoBulk d + 1
  | .map entries => uptoBulkEntries entries + 1
  | .held _ => 1
def uptoBulkAll {H : Type} : List (DataW H) → Nat
  | [] => 0
  | d :: r => uptoBulk d + uptoBulkAll r
def uptoBulkEntries {H : Type} : List (Lit × DataW H) → Nat
  | [] => 0
  | x :: r => uptoBulkEntry x + uptoBulkEntries r
def uptoBulkEntry {H : Type} : Lit × DataW H → Nat
  | (.string bytes, d) => bytes.length + uptoBulk d + 1
  | (_, d) => uptoBulk d + 1
 end
def uptoSmall : (H : Type) → List (DataW H) → Bool := fun _ ds => decide (uptoBulkAll ds ≤ 1048576)
def OpenSpec.upto (s : _root_.Go.ChangeSpec) : _root_.Go.OpenSpec := { _root_.Go.OpenSpec.ofChange s with cond := some uptoSmall }

/-- 'twinshaftlaw06.OpNames', WHERE WHAT IT READS IS OF BULK AT MOST 1048576: true; the input reads as it did. -/
def opNamesUptoRow : OpenClaim := { program := "ytbcfdjpnckikdaa", sum := "6ea9111f55626b81e55d94a27a10b760fc4fd549a04d6db8bf12676b4e955031", func := "twinshaft/twinshaftlaw06.OpNames", spec := "opNames", unfollowed := true, recurses := true, apart := false, narrowed := true }
def OpNamesUptoSaid : Prop := opNamesUptoRow.holds Try.pinned (OpenSpec.upto opNamesSpec)

/-- 'twinshaftlaw06.OpChecks', WHERE WHAT IT READS IS OF BULK AT MOST 1048576: true; the input reads as it did. -/
def opChecksUptoRow : OpenClaim := { program := "ytbcfdjpnckikdaa", sum := "6ea9111f55626b81e55d94a27a10b760fc4fd549a04d6db8bf12676b4e955031", func := "twinshaft/twinshaftlaw06.OpChecks", spec := "opChecks", unfollowed := true, recurses := true, apart := false, narrowed := true }
def OpChecksUptoSaid : Prop := opChecksUptoRow.holds Try.pinned (OpenSpec.upto opChecksSpec)

/-- 'twinshaftlaw06.OpKnown', WHERE WHAT IT READS IS OF BULK AT MOST 1048576: true; the input reads as it did. -/
def opKnownUptoRow : OpenClaim := { program := "ytbcfdjpnckikdaa", sum := "6ea9111f55626b81e55d94a27a10b760fc4fd549a04d6db8bf12676b4e955031", func := "twinshaft/twinshaftlaw06.OpKnown", spec := "opKnown", unfollowed := true, recurses := true, apart := false, narrowed := true }
def OpKnownUptoSaid : Prop := opKnownUptoRow.holds Try.pinned (OpenSpec.upto opKnownSpec)

/-- 'twinshaftlaw06.OpFound', WHERE WHAT IT READS IS OF BULK AT MOST 1048576: true; the input reads as it did. -/
def opFoundUptoRow : OpenClaim := { program := "ytbcfdjpnckikdaa", sum := "6ea9111f55626b81e55d94a27a10b760fc4fd549a04d6db8bf12676b4e955031", func := "twinshaft/twinshaftlaw06.OpFound", spec := "opFound", unfollowed := true, recurses := true, apart := false, narrowed := true }
def OpFoundUptoSaid : Prop := opFoundUptoRow.holds Try.pinned (OpenSpec.upto opFoundSpec)

/-- 'twinshaftlaw06.OpWithin', WHERE WHAT IT READS IS OF BULK AT MOST 1048576: true; the input reads as it did. -/
def opWithinUptoRow : OpenClaim := { program := "ytbcfdjpnckikdaa", sum := "6ea9111f55626b81e55d94a27a10b760fc4fd549a04d6db8bf12676b4e955031", func := "twinshaft/twinshaftlaw06.OpWithin", spec := "opWithin", unfollowed := true, recurses := true, apart := false, narrowed := true }
def OpWithinUptoSaid : Prop := opWithinUptoRow.holds Try.pinned (OpenSpec.upto opWithinSpec)

end Rows
end Go.Proofs.Ytbcfdjpnckikdaa
