/-
  DERIVED. GIVEN WITH THE SEED: THE CARDS: each row of YtecbpbkehdmmcaaDoorRows.lean that lists a variable, with what it lists TIED to the program's text (the seventh form; the later family's looks); each row that meets fmt, with fmt's text TOLD by the authors' own Lean function (tested against real Go, not proved from fmt's source: count such statements apart). THE CARD IS WHAT COUNTS. Prove the row's statement (the work); the ties are given (YtecbpbkehdmmcaaDoorTie.lean); close each card by the builder's one call (the guide's Derived/Test/ToyasCard.lean, 'card_holds'). Laid BY PROGRAM, IN A SANDBOX (cutbox-door.mjs). By AI agents, Wed Nov 11 2026. No macro, syntax, notation, axiom, sorry.
-/
import Derived.Test.YtecbpbkehdmmcaaDoorRows
import GoSem.ClaimSeven
namespace Go.Proofs.YtecbpbkehdmmcaaDoor
namespace Rows

/-- THE TIED CARD OF 'twinshaftlaw14.DeedsScript'. -/
def deedsScriptCard : Claim7 := { stood := { row := deedsScriptRow, standIns := [], harness := (true, "a2cb1dd5547bc872e35d75cd7b279d60b48979ac03794db41b147d840368f421"), looks := false }, kinds := [], alts := [], laidByText := true, laidKinds := [.data, .data, .data], laidTests := true, laidLooks := .later }
def DeedsScriptCardSaid : Prop := Claim7.holds Tryd.pinned (.plain (OpenSpec.ofChange deedsScriptSpec)) deedsScriptCard

/-- THE TIED CARD OF 'twinshaftlaw14.DeedsTells'. -/
def deedsTellsCard : Claim7 := { stood := { row := deedsTellsRow, standIns := [], harness := (true, "a2cb1dd5547bc872e35d75cd7b279d60b48979ac03794db41b147d840368f421"), looks := false }, kinds := [], alts := [], laidByText := true, laidKinds := [.data, .data, .data], laidTests := true, laidLooks := .later }
def DeedsTellsCardSaid : Prop := Claim7.holds Tryd.pinned (.plain (OpenSpec.ofChange deedsTellsSpec)) deedsTellsCard

/-- THE TIED CARD OF 'twinshaftlaw14.DeedsNone'. -/
def deedsNoneCard : Claim7 := { stood := { row := deedsNoneRow, standIns := [], harness := (true, "a2cb1dd5547bc872e35d75cd7b279d60b48979ac03794db41b147d840368f421"), looks := false }, kinds := [], alts := [], laidByText := true, laidKinds := [.data, .data, .data], laidTests := true, laidLooks := .later }
def DeedsNoneCardSaid : Prop := Claim7.holds Tryd.pinned (.plain (OpenSpec.ofChange deedsNoneSpec)) deedsNoneCard

/-- THE TIED CARD OF 'twinshaftlaw14.DeedsKnown'. -/
def deedsKnownCard : Claim7 := { stood := { row := deedsKnownRow, standIns := [], harness := (true, "a2cb1dd5547bc872e35d75cd7b279d60b48979ac03794db41b147d840368f421"), looks := false }, kinds := [], alts := [], laidByText := true, laidKinds := [.data, .data, .data], laidTests := true, laidLooks := .later }
def DeedsKnownCardSaid : Prop := Claim7.holds Tryd.pinned (.plain (OpenSpec.ofChange deedsKnownSpec)) deedsKnownCard

/-- THE TIED CARD OF 'twinshaftlaw14.DeedsTape'. -/
def deedsTapeCard : Claim7 := { stood := { row := deedsTapeRow, standIns := [], harness := (true, "a2cb1dd5547bc872e35d75cd7b279d60b48979ac03794db41b147d840368f421"), looks := false }, kinds := [], alts := [], laidByText := true, laidKinds := [.data, .data, .data], laidTests := true, laidLooks := .later }
def DeedsTapeCardSaid : Prop := Claim7.holds Tryd.pinned (.plain (OpenSpec.ofChange deedsTapeSpec)) deedsTapeCard

/-- THE TIED CARD OF 'twinshaftlaw14.DeedsTexts'. -/
def deedsTextsCard : Claim7 := { stood := { row := deedsTextsRow, standIns := [], harness := (true, "a2cb1dd5547bc872e35d75cd7b279d60b48979ac03794db41b147d840368f421"), looks := false }, kinds := [], alts := [], laidByText := true, laidKinds := [.data, .data, .data], laidTests := true, laidLooks := .later }
def DeedsTextsCardSaid : Prop := Claim7.holds Tryd.pinned (.plain (OpenSpec.ofChange deedsTextsSpec)) deedsTextsCard

/-- THE SECOND FORM's CARD OF 'twinshaftlaw14.DeedsScript'. -/
def deedsScriptUptoCard : Claim7 := { stood := { row := deedsScriptUptoRow, standIns := [], harness := (true, "a2cb1dd5547bc872e35d75cd7b279d60b48979ac03794db41b147d840368f421"), looks := false }, kinds := [], alts := [], laidByText := true, laidKinds := [.data, .data, .data], laidTests := true, laidLooks := .later }
def DeedsScriptUptoCardSaid : Prop := Claim7.holds Tryd.pinned (.plain (OpenSpec.upto deedsScriptSpec)) deedsScriptUptoCard

/-- THE SECOND FORM's CARD OF 'twinshaftlaw14.DeedsTells'. -/
def deedsTellsUptoCard : Claim7 := { stood := { row := deedsTellsUptoRow, standIns := [], harness := (true, "a2cb1dd5547bc872e35d75cd7b279d60b48979ac03794db41b147d840368f421"), looks := false }, kinds := [], alts := [], laidByText := true, laidKinds := [.data, .data, .data], laidTests := true, laidLooks := .later }
def DeedsTellsUptoCardSaid : Prop := Claim7.holds Tryd.pinned (.plain (OpenSpec.upto deedsTellsSpec)) deedsTellsUptoCard

/-- THE SECOND FORM's CARD OF 'twinshaftlaw14.DeedsNone'. -/
def deedsNoneUptoCard : Claim7 := { stood := { row := deedsNoneUptoRow, standIns := [], harness := (true, "a2cb1dd5547bc872e35d75cd7b279d60b48979ac03794db41b147d840368f421"), looks := false }, kinds := [], alts := [], laidByText := true, laidKinds := [.data, .data, .data], laidTests := true, laidLooks := .later }
def DeedsNoneUptoCardSaid : Prop := Claim7.holds Tryd.pinned (.plain (OpenSpec.upto deedsNoneSpec)) deedsNoneUptoCard

/-- THE SECOND FORM's CARD OF 'twinshaftlaw14.DeedsKnown'. -/
def deedsKnownUptoCard : Claim7 := { stood := { row := deedsKnownUptoRow, standIns := [], harness := (true, "a2cb1dd5547bc872e35d75cd7b279d60b48979ac03794db41b147d840368f421"), looks := false }, kinds := [], alts := [], laidByText := true, laidKinds := [.data, .data, .data], laidTests := true, laidLooks := .later }
def DeedsKnownUptoCardSaid : Prop := Claim7.holds Tryd.pinned (.plain (OpenSpec.upto deedsKnownSpec)) deedsKnownUptoCard

/-- THE SECOND FORM's CARD OF 'twinshaftlaw14.DeedsTape'. -/
def deedsTapeUptoCard : Claim7 := { stood := { row := deedsTapeUptoRow, standIns := [], harness := (true, "a2cb1dd5547bc872e35d75cd7b279d60b48979ac03794db41b147d840368f421"), looks := false }, kinds := [], alts := [], laidByText := true, laidKinds := [.data, .data, .data], laidTests := true, laidLooks := .later }
def DeedsTapeUptoCardSaid : Prop := Claim7.holds Tryd.pinned (.plain (OpenSpec.upto deedsTapeSpec)) deedsTapeUptoCard

/-- THE SECOND FORM's CARD OF 'twinshaftlaw14.DeedsTexts'. -/
def deedsTextsUptoCard : Claim7 := { stood := { row := deedsTextsUptoRow, standIns := [], harness := (true, "a2cb1dd5547bc872e35d75cd7b279d60b48979ac03794db41b147d840368f421"), looks := false }, kinds := [], alts := [], laidByText := true, laidKinds := [.data, .data, .data], laidTests := true, laidLooks := .later }
def DeedsTextsUptoCardSaid : Prop := Claim7.holds Tryd.pinned (.plain (OpenSpec.upto deedsTextsSpec)) deedsTextsUptoCard
end Rows
end Go.Proofs.YtecbpbkehdmmcaaDoor
