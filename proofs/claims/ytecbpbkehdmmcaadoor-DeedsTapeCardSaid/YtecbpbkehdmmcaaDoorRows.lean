/-
  NARROWER THAN 'FOR EVERY INPUT', by the rows' own cells (each row's printed sentence says how): DeedsScript: laid · DeedsTells: laid · DeedsNone: laid · DeedsKnown: laid · DeedsTape: laid · DeedsTexts: laid.
  DERIVED. THE GIVEN ROWS OF THIS SEAT. 6 by the template 'for every input the law returns true; each argument reads behind the call as it read before'; 0 by the template 'total and deterministic' (their statements: YtecbpbkehdmmcaaDoorTotals.lean).
  GIVEN WITH THE SEED: the statements are not yours to turn. If you find one false, say at which input.
  Laid BY PROGRAM, IN A SANDBOX (cutbox-rows.mjs): the forced cells as the released guide's own fill.sh prints them over the translation b7cdd8d8e5100f70… (all of the seat's roots in one cut). By AI agents, Wed Nov 11 2026. No macro, syntax, notation, axiom, sorry.
-/
import Derived.Test.YtecbpbkehdmmcaaDoorChecked
import GoSem.Claim
import GoSem.ClaimJoined
import GoSem.ClaimMapViews
import Derived.JoinedTies
import Derived.KernelRfl
namespace Go.Proofs.YtecbpbkehdmmcaaDoor
/- THE CELL 'sum', in the pinned program and in every row, IS THE sha256 OF THE DUMP (.gsa) THAT YtecbpbkehdmmcaaDoorProg.lean LOADS. Nothing in Lean hashes anything: it is a label: what it is worth is what the hold of that sum in a sandbox is worth. -/
noncomputable def Tryd.pinned : Pinned := { name := "ytecbpbkehdmmcaadoor", sum := "b7cdd8d8e5100f7038759f80bf7ec6dbdf6bcc83ddd555d986132d784910ec60", checked := Tryd.checked }
namespace Rows
def none {H : Type} : Left H := { results := [], args := [] }

/- WHAT THE LISTED PACKAGE-LEVEL VARIABLES READ AS WHEN THE CALL BEGINS. Each datum BY PROGRAM (the guide's laid-datum.mjs) off the statement by which the dump's own 'gosem.cut.vars' lays the variable. In a bare row this is a premise. The card (YtecbpbkehdmmcaaDoorCards.lean) ties it to the program's text. -/
def laid_math_bits_deBruijn32tab {H : Type} : DataW H := .agg [.lit (.int .u8 0), .lit (.int .u8 1), .lit (.int .u8 28), .lit (.int .u8 2), .lit (.int .u8 29), .lit (.int .u8 14), .lit (.int .u8 24), .lit (.int .u8 3), .lit (.int .u8 30), .lit (.int .u8 22), .lit (.int .u8 20), .lit (.int .u8 15), .lit (.int .u8 25), .lit (.int .u8 17), .lit (.int .u8 4), .lit (.int .u8 8), .lit (.int .u8 31), .lit (.int .u8 27), .lit (.int .u8 13), .lit (.int .u8 23), .lit (.int .u8 21), .lit (.int .u8 19), .lit (.int .u8 16), .lit (.int .u8 7), .lit (.int .u8 26), .lit (.int .u8 12), .lit (.int .u8 18), .lit (.int .u8 6), .lit (.int .u8 11), .lit (.int .u8 5), .lit (.int .u8 10), .lit (.int .u8 9)]
def laid_math_bits_deBruijn64tab {H : Type} : DataW H := .agg [.lit (.int .u8 0), .lit (.int .u8 1), .lit (.int .u8 56), .lit (.int .u8 2), .lit (.int .u8 57), .lit (.int .u8 49), .lit (.int .u8 28), .lit (.int .u8 3), .lit (.int .u8 61), .lit (.int .u8 58), .lit (.int .u8 42), .lit (.int .u8 50), .lit (.int .u8 38), .lit (.int .u8 29), .lit (.int .u8 17), .lit (.int .u8 4), .lit (.int .u8 62), .lit (.int .u8 47), .lit (.int .u8 59), .lit (.int .u8 36), .lit (.int .u8 45), .lit (.int .u8 43), .lit (.int .u8 51), .lit (.int .u8 22), .lit (.int .u8 53), .lit (.int .u8 39), .lit (.int .u8 33), .lit (.int .u8 30), .lit (.int .u8 24), .lit (.int .u8 18), .lit (.int .u8 12), .lit (.int .u8 5), .lit (.int .u8 63), .lit (.int .u8 55), .lit (.int .u8 48), .lit (.int .u8 27), .lit (.int .u8 60), .lit (.int .u8 41), .lit (.int .u8 37), .lit (.int .u8 16), .lit (.int .u8 46), .lit (.int .u8 35), .lit (.int .u8 44), .lit (.int .u8 21), .lit (.int .u8 52), .lit (.int .u8 32), .lit (.int .u8 23), .lit (.int .u8 11), .lit (.int .u8 54), .lit (.int .u8 26), .lit (.int .u8 40), .lit (.int .u8 15), .lit (.int .u8 34), .lit (.int .u8 20), .lit (.int .u8 31), .lit (.int .u8 10), .lit (.int .u8 25), .lit (.int .u8 14), .lit (.int .u8 19), .lit (.int .u8 9), .lit (.int .u8 13), .lit (.int .u8 8), .lit (.int .u8 7), .lit (.int .u8 6)]
def laid_internal_strconv_uint64pow10 {H : Type} : DataW H := .agg [.lit (.int .u64 1), .lit (.int .u64 10), .lit (.int .u64 100), .lit (.int .u64 1000), .lit (.int .u64 10000), .lit (.int .u64 100000), .lit (.int .u64 1000000), .lit (.int .u64 10000000), .lit (.int .u64 100000000), .lit (.int .u64 1000000000), .lit (.int .u64 10000000000), .lit (.int .u64 100000000000), .lit (.int .u64 1000000000000), .lit (.int .u64 10000000000000), .lit (.int .u64 100000000000000), .lit (.int .u64 1000000000000000), .lit (.int .u64 10000000000000000), .lit (.int .u64 100000000000000000), .lit (.int .u64 1000000000000000000), .lit (.int .u64 10000000000000000000)]

/-- 'twinshaftlaw14.DeedsScript': WHATEVER THE INPUT: true; the input reads as it did. -/
def deedsScriptSpec : ChangeSpec := { name := "deedsScript", fn := fun _ => fun
  | [d1, d2, d3] => { results := [.lit (.bool true)], args := [d1, d2, d3] }
  | _ => none }
def deedsScriptRow : OpenClaim := { program := "ytecbpbkehdmmcaadoor", sum := "b7cdd8d8e5100f7038759f80bf7ec6dbdf6bcc83ddd555d986132d784910ec60", func := "twinshaft/twinshaftlaw14.DeedsScript", spec := "deedsScript", unfollowed := true, recurses := true, named := ["internal/strconv.uint64pow10", "math/bits.deBruijn32tab", "math/bits.deBruijn64tab"], apart := false, laid := [("math/bits.deBruijn32tab", laid_math_bits_deBruijn32tab), ("math/bits.deBruijn64tab", laid_math_bits_deBruijn64tab), ("internal/strconv.uint64pow10", laid_internal_strconv_uint64pow10)] }
def DeedsScriptSaid : Prop := deedsScriptRow.holds Tryd.pinned (OpenSpec.ofChange deedsScriptSpec)

/-- ITS FALSE NEIGHBOUR: 'it returns false'. Refute it at one input. -/
def deedsScriptWrong : ChangeSpec := { name := "deedsScript", fn := fun _ => fun
  | [d1, d2, d3] => { results := [.lit (.bool false)], args := [d1, d2, d3] }
  | _ => none }
def DeedsScriptWrongFalsely : Prop := deedsScriptRow.holds Tryd.pinned (OpenSpec.ofChange deedsScriptWrong)

/-- 'twinshaftlaw14.DeedsTells': WHATEVER THE INPUT: true; the input reads as it did. -/
def deedsTellsSpec : ChangeSpec := { name := "deedsTells", fn := fun _ => fun
  | [d1, d2] => { results := [.lit (.bool true)], args := [d1, d2] }
  | _ => none }
def deedsTellsRow : OpenClaim := { program := "ytecbpbkehdmmcaadoor", sum := "b7cdd8d8e5100f7038759f80bf7ec6dbdf6bcc83ddd555d986132d784910ec60", func := "twinshaft/twinshaftlaw14.DeedsTells", spec := "deedsTells", unfollowed := true, recurses := true, named := ["internal/strconv.uint64pow10", "math/bits.deBruijn32tab", "math/bits.deBruijn64tab"], apart := false, laid := [("math/bits.deBruijn32tab", laid_math_bits_deBruijn32tab), ("math/bits.deBruijn64tab", laid_math_bits_deBruijn64tab), ("internal/strconv.uint64pow10", laid_internal_strconv_uint64pow10)] }
def DeedsTellsSaid : Prop := deedsTellsRow.holds Tryd.pinned (OpenSpec.ofChange deedsTellsSpec)

/-- ITS FALSE NEIGHBOUR: 'it returns false'. Refute it at one input. -/
def deedsTellsWrong : ChangeSpec := { name := "deedsTells", fn := fun _ => fun
  | [d1, d2] => { results := [.lit (.bool false)], args := [d1, d2] }
  | _ => none }
def DeedsTellsWrongFalsely : Prop := deedsTellsRow.holds Tryd.pinned (OpenSpec.ofChange deedsTellsWrong)

/-- 'twinshaftlaw14.DeedsNone': WHATEVER THE INPUT: true; the input reads as it did. -/
def deedsNoneSpec : ChangeSpec := { name := "deedsNone", fn := fun _ => fun
  | [d] => { results := [.lit (.bool true)], args := [d] }
  | _ => none }
def deedsNoneRow : OpenClaim := { program := "ytecbpbkehdmmcaadoor", sum := "b7cdd8d8e5100f7038759f80bf7ec6dbdf6bcc83ddd555d986132d784910ec60", func := "twinshaft/twinshaftlaw14.DeedsNone", spec := "deedsNone", unfollowed := true, recurses := true, named := ["internal/strconv.uint64pow10", "math/bits.deBruijn32tab", "math/bits.deBruijn64tab"], apart := false, laid := [("math/bits.deBruijn32tab", laid_math_bits_deBruijn32tab), ("math/bits.deBruijn64tab", laid_math_bits_deBruijn64tab), ("internal/strconv.uint64pow10", laid_internal_strconv_uint64pow10)] }
def DeedsNoneSaid : Prop := deedsNoneRow.holds Tryd.pinned (OpenSpec.ofChange deedsNoneSpec)

/-- ITS FALSE NEIGHBOUR: 'it returns false'. Refute it at one input. -/
def deedsNoneWrong : ChangeSpec := { name := "deedsNone", fn := fun _ => fun
  | [d] => { results := [.lit (.bool false)], args := [d] }
  | _ => none }
def DeedsNoneWrongFalsely : Prop := deedsNoneRow.holds Tryd.pinned (OpenSpec.ofChange deedsNoneWrong)

/-- 'twinshaftlaw14.DeedsKnown': WHATEVER THE INPUT: true; the input reads as it did. -/
def deedsKnownSpec : ChangeSpec := { name := "deedsKnown", fn := fun _ => fun
  | [] => { results := [.lit (.bool true)], args := [] }
  | _ => none }
def deedsKnownRow : OpenClaim := { program := "ytecbpbkehdmmcaadoor", sum := "b7cdd8d8e5100f7038759f80bf7ec6dbdf6bcc83ddd555d986132d784910ec60", func := "twinshaft/twinshaftlaw14.DeedsKnown", spec := "deedsKnown", unfollowed := true, recurses := true, named := ["internal/strconv.uint64pow10", "math/bits.deBruijn32tab", "math/bits.deBruijn64tab"], apart := false, laid := [("math/bits.deBruijn32tab", laid_math_bits_deBruijn32tab), ("math/bits.deBruijn64tab", laid_math_bits_deBruijn64tab), ("internal/strconv.uint64pow10", laid_internal_strconv_uint64pow10)] }
def DeedsKnownSaid : Prop := deedsKnownRow.holds Tryd.pinned (OpenSpec.ofChange deedsKnownSpec)

/-- ITS FALSE NEIGHBOUR: 'it returns false'. Refute it at one input. -/
def deedsKnownWrong : ChangeSpec := { name := "deedsKnown", fn := fun _ => fun
  | [] => { results := [.lit (.bool false)], args := [] }
  | _ => none }
def DeedsKnownWrongFalsely : Prop := deedsKnownRow.holds Tryd.pinned (OpenSpec.ofChange deedsKnownWrong)

/-- 'twinshaftlaw14.DeedsTape': WHATEVER THE INPUT: true; the input reads as it did. -/
def deedsTapeSpec : ChangeSpec := { name := "deedsTape", fn := fun _ => fun
  | [d1, d2, d3] => { results := [.lit (.bool true)], args := [d1, d2, d3] }
  | _ => none }
def deedsTapeRow : OpenClaim := { program := "ytecbpbkehdmmcaadoor", sum := "b7cdd8d8e5100f7038759f80bf7ec6dbdf6bcc83ddd555d986132d784910ec60", func := "twinshaft/twinshaftlaw14.DeedsTape", spec := "deedsTape", unfollowed := true, recurses := true, named := ["internal/strconv.uint64pow10", "math/bits.deBruijn32tab", "math/bits.deBruijn64tab"], apart := false, laid := [("math/bits.deBruijn32tab", laid_math_bits_deBruijn32tab), ("math/bits.deBruijn64tab", laid_math_bits_deBruijn64tab), ("internal/strconv.uint64pow10", laid_internal_strconv_uint64pow10)] }
def DeedsTapeSaid : Prop := deedsTapeRow.holds Tryd.pinned (OpenSpec.ofChange deedsTapeSpec)

/-- ITS FALSE NEIGHBOUR: 'it returns false'. Refute it at one input. -/
def deedsTapeWrong : ChangeSpec := { name := "deedsTape", fn := fun _ => fun
  | [d1, d2, d3] => { results := [.lit (.bool false)], args := [d1, d2, d3] }
  | _ => none }
def DeedsTapeWrongFalsely : Prop := deedsTapeRow.holds Tryd.pinned (OpenSpec.ofChange deedsTapeWrong)

/-- 'twinshaftlaw14.DeedsTexts': WHATEVER THE INPUT: true; the input reads as it did. -/
def deedsTextsSpec : ChangeSpec := { name := "deedsTexts", fn := fun _ => fun
  | [d1, d2] => { results := [.lit (.bool true)], args := [d1, d2] }
  | _ => none }
def deedsTextsRow : OpenClaim := { program := "ytecbpbkehdmmcaadoor", sum := "b7cdd8d8e5100f7038759f80bf7ec6dbdf6bcc83ddd555d986132d784910ec60", func := "twinshaft/twinshaftlaw14.DeedsTexts", spec := "deedsTexts", unfollowed := true, recurses := true, named := ["internal/strconv.uint64pow10", "math/bits.deBruijn32tab", "math/bits.deBruijn64tab"], apart := false, laid := [("math/bits.deBruijn32tab", laid_math_bits_deBruijn32tab), ("math/bits.deBruijn64tab", laid_math_bits_deBruijn64tab), ("internal/strconv.uint64pow10", laid_internal_strconv_uint64pow10)] }
def DeedsTextsSaid : Prop := deedsTextsRow.holds Tryd.pinned (OpenSpec.ofChange deedsTextsSpec)

/-- ITS FALSE NEIGHBOUR: 'it returns false'. Refute it at one input. -/
def deedsTextsWrong : ChangeSpec := { name := "deedsTexts", fn := fun _ => fun
  | [d1, d2] => { results := [.lit (.bool false)], args := [d1, d2] }
  | _ => none }
def DeedsTextsWrongFalsely : Prop := deedsTextsRow.holds Tryd.pinned (OpenSpec.ofChange deedsTextsWrong)

/- THE SECOND FORM. 'bulk': how many values and letters a reading holds, each counted each time it is reached (what is shared counts as often as it is met; a slice's spare places count too). A statement '..UptoSaid' is the law's where the arguments, and the package variables that the reading takes, are together of bulk at most 1048576: NARROWER than '..Said'. Prove '..Said' where nothing that the law and all that it calls make is longer than what came in: it says more and counts as full. Else prove '..UptoSaid'. A law counts once. -/
mutual
def uptoBulk {H : Type} : DataW H → Nat
  | .lit (.string bytes) => bytes.length + 1
  | .lit _ => 1
  | .nil => 1
  | .ptr d => uptoBulk d + 1
  | .slice elems spare => uptoBulkAll elems + uptoBulkAll spare + 1
  | .agg parts => uptoBulkAll parts + 1
  | .iface _ d => uptoBulk d + 1
  | .map entries => uptoBulkEntries entries + 1
  | .held _ => 1
def uptoBulkAll {H : Type} : List (DataW H) → Nat
  | [] => 0
  | d :: r => uptoBulk d + uptoBulkAll r
def uptoBulkEntries {H : Type} : List (Lit × DataW H) → Nat
  | [] => 0
  | x :: r => uptoBulkEntry x + uptoBulkEntries r
def uptoBulkEntry {H : Type} : Lit × DataW H → Nat
  | (.string bytes, d) => bytes.length + uptoBulk d + 1
  | (_, d) => uptoBulk d + 1
 end
def uptoSmall : (H : Type) → List (DataW H) → Bool := fun _ ds => decide (uptoBulkAll ds ≤ 1048576)
def OpenSpec.upto (s : _root_.Go.ChangeSpec) : _root_.Go.OpenSpec := { _root_.Go.OpenSpec.ofChange s with cond := some uptoSmall }

/-- 'twinshaftlaw14.DeedsScript', WHERE WHAT IT READS IS OF BULK AT MOST 1048576: true; the input reads as it did. -/
def deedsScriptUptoRow : OpenClaim := { program := "ytecbpbkehdmmcaadoor", sum := "b7cdd8d8e5100f7038759f80bf7ec6dbdf6bcc83ddd555d986132d784910ec60", func := "twinshaft/twinshaftlaw14.DeedsScript", spec := "deedsScript", unfollowed := true, recurses := true, named := ["internal/strconv.uint64pow10", "math/bits.deBruijn32tab", "math/bits.deBruijn64tab"], apart := false, laid := [("math/bits.deBruijn32tab", laid_math_bits_deBruijn32tab), ("math/bits.deBruijn64tab", laid_math_bits_deBruijn64tab), ("internal/strconv.uint64pow10", laid_internal_strconv_uint64pow10)], narrowed := true }
def DeedsScriptUptoSaid : Prop := deedsScriptUptoRow.holds Tryd.pinned (OpenSpec.upto deedsScriptSpec)

/-- 'twinshaftlaw14.DeedsTells', WHERE WHAT IT READS IS OF BULK AT MOST 1048576: true; the input reads as it did. -/
def deedsTellsUptoRow : OpenClaim := { program := "ytecbpbkehdmmcaadoor", sum := "b7cdd8d8e5100f7038759f80bf7ec6dbdf6bcc83ddd555d986132d784910ec60", func := "twinshaft/twinshaftlaw14.DeedsTells", spec := "deedsTells", unfollowed := true, recurses := true, named := ["internal/strconv.uint64pow10", "math/bits.deBruijn32tab", "math/bits.deBruijn64tab"], apart := false, laid := [("math/bits.deBruijn32tab", laid_math_bits_deBruijn32tab), ("math/bits.deBruijn64tab", laid_math_bits_deBruijn64tab), ("internal/strconv.uint64pow10", laid_internal_strconv_uint64pow10)], narrowed := true }
def DeedsTellsUptoSaid : Prop := deedsTellsUptoRow.holds Tryd.pinned (OpenSpec.upto deedsTellsSpec)

/-- 'twinshaftlaw14.DeedsNone', WHERE WHAT IT READS IS OF BULK AT MOST 1048576: true; the input reads as it did. -/
def deedsNoneUptoRow : OpenClaim := { program := "ytecbpbkehdmmcaadoor", sum := "b7cdd8d8e5100f7038759f80bf7ec6dbdf6bcc83ddd555d986132d784910ec60", func := "twinshaft/twinshaftlaw14.DeedsNone", spec := "deedsNone", unfollowed := true, recurses := true, named := ["internal/strconv.uint64pow10", "math/bits.deBruijn32tab", "math/bits.deBruijn64tab"], apart := false, laid := [("math/bits.deBruijn32tab", laid_math_bits_deBruijn32tab), ("math/bits.deBruijn64tab", laid_math_bits_deBruijn64tab), ("internal/strconv.uint64pow10", laid_internal_strconv_uint64pow10)], narrowed := true }
def DeedsNoneUptoSaid : Prop := deedsNoneUptoRow.holds Tryd.pinned (OpenSpec.upto deedsNoneSpec)

/-- 'twinshaftlaw14.DeedsKnown', WHERE WHAT IT READS IS OF BULK AT MOST 1048576: true; the input reads as it did. -/
def deedsKnownUptoRow : OpenClaim := { program := "ytecbpbkehdmmcaadoor", sum := "b7cdd8d8e5100f7038759f80bf7ec6dbdf6bcc83ddd555d986132d784910ec60", func := "twinshaft/twinshaftlaw14.DeedsKnown", spec := "deedsKnown", unfollowed := true, recurses := true, named := ["internal/strconv.uint64pow10", "math/bits.deBruijn32tab", "math/bits.deBruijn64tab"], apart := false, laid := [("math/bits.deBruijn32tab", laid_math_bits_deBruijn32tab), ("math/bits.deBruijn64tab", laid_math_bits_deBruijn64tab), ("internal/strconv.uint64pow10", laid_internal_strconv_uint64pow10)], narrowed := true }
def DeedsKnownUptoSaid : Prop := deedsKnownUptoRow.holds Tryd.pinned (OpenSpec.upto deedsKnownSpec)

/-- 'twinshaftlaw14.DeedsTape', WHERE WHAT IT READS IS OF BULK AT MOST 1048576: true; the input reads as it did. -/
def deedsTapeUptoRow : OpenClaim := { program := "ytecbpbkehdmmcaadoor", sum := "b7cdd8d8e5100f7038759f80bf7ec6dbdf6bcc83ddd555d986132d784910ec60", func := "twinshaft/twinshaftlaw14.DeedsTape", spec := "deedsTape", unfollowed := true, recurses := true, named := ["internal/strconv.uint64pow10", "math/bits.deBruijn32tab", "math/bits.deBruijn64tab"], apart := false, laid := [("math/bits.deBruijn32tab", laid_math_bits_deBruijn32tab), ("math/bits.deBruijn64tab", laid_math_bits_deBruijn64tab), ("internal/strconv.uint64pow10", laid_internal_strconv_uint64pow10)], narrowed := true }
def DeedsTapeUptoSaid : Prop := deedsTapeUptoRow.holds Tryd.pinned (OpenSpec.upto deedsTapeSpec)

/-- 'twinshaftlaw14.DeedsTexts', WHERE WHAT IT READS IS OF BULK AT MOST 1048576: true; the input reads as it did. -/
def deedsTextsUptoRow : OpenClaim := { program := "ytecbpbkehdmmcaadoor", sum := "b7cdd8d8e5100f7038759f80bf7ec6dbdf6bcc83ddd555d986132d784910ec60", func := "twinshaft/twinshaftlaw14.DeedsTexts", spec := "deedsTexts", unfollowed := true, recurses := true, named := ["internal/strconv.uint64pow10", "math/bits.deBruijn32tab", "math/bits.deBruijn64tab"], apart := false, laid := [("math/bits.deBruijn32tab", laid_math_bits_deBruijn32tab), ("math/bits.deBruijn64tab", laid_math_bits_deBruijn64tab), ("internal/strconv.uint64pow10", laid_internal_strconv_uint64pow10)], narrowed := true }
def DeedsTextsUptoSaid : Prop := deedsTextsUptoRow.holds Tryd.pinned (OpenSpec.upto deedsTextsSpec)

end Rows
end Go.Proofs.YtecbpbkehdmmcaaDoor
