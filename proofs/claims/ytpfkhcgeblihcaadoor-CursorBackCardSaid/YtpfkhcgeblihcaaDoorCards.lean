/-
  DERIVED. GIVEN WITH THE SEED: THE CARDS: each row of YtpfkhcgeblihcaaDoorRows.lean that lists a variable, with what it lists TIED to the program's text (the seventh form; the later family's looks); each row that meets fmt, with fmt's text TOLD by the authors' own Lean function (tested against real Go, not proved from fmt's source: count such statements apart). THE CARD IS WHAT COUNTS. Prove the row's statement (the work); the ties are given (YtpfkhcgeblihcaaDoorTie.lean); close each card by the builder's one call (the guide's Derived/Test/ToyasCard.lean, 'card_holds'). Laid BY PROGRAM, IN A SANDBOX (cutbox-door.mjs). By AI agents, Wed Nov 11 2026. No macro, syntax, notation, axiom, sorry.
-/
import Derived.Test.YtpfkhcgeblihcaaDoorRows
import GoSem.ClaimSeven
namespace Go.Proofs.YtpfkhcgeblihcaaDoor
namespace Rows

/-- THE TIED CARD OF 'diurnallaw19.CursorSays'. -/
def cursorSaysCard : Claim7 := { stood := { row := cursorSaysRow, standIns := [], harness := (true, "1e011e8beeb0a67d13aaacaf665dd2f2775ecf176310c87ecf79e164114960e4"), looks := false }, kinds := [], alts := [], laidByText := true, laidKinds := [.data, .data, .data], laidTests := true, laidLooks := .later }
def CursorSaysCardSaid : Prop := Claim7.holds Tryd.pinned (.plain (OpenSpec.ofChange cursorSaysSpec)) cursorSaysCard

/-- THE TIED CARD OF 'diurnallaw19.CursorBack'. -/
def cursorBackCard : Claim7 := { stood := { row := cursorBackRow, standIns := [], harness := (true, "1e011e8beeb0a67d13aaacaf665dd2f2775ecf176310c87ecf79e164114960e4"), looks := false }, kinds := [], alts := [], laidByText := true, laidKinds := [.data, .data, .data], laidTests := true, laidLooks := .later }
def CursorBackCardSaid : Prop := Claim7.holds Tryd.pinned (.plain (OpenSpec.ofChange cursorBackSpec)) cursorBackCard

/-- THE TIED CARD OF 'diurnallaw19.CursorOrder'. -/
def cursorOrderCard : Claim7 := { stood := { row := cursorOrderRow, standIns := [], harness := (true, "1e011e8beeb0a67d13aaacaf665dd2f2775ecf176310c87ecf79e164114960e4"), looks := false }, kinds := [], alts := [], laidByText := true, laidKinds := [.data, .data, .data], laidTests := true, laidLooks := .later }
def CursorOrderCardSaid : Prop := Claim7.holds Tryd.pinned (.plain (OpenSpec.ofChange cursorOrderSpec)) cursorOrderCard

/-- THE SECOND FORM's CARD OF 'diurnallaw19.CursorSays'. -/
def cursorSaysUptoCard : Claim7 := { stood := { row := cursorSaysUptoRow, standIns := [], harness := (true, "1e011e8beeb0a67d13aaacaf665dd2f2775ecf176310c87ecf79e164114960e4"), looks := false }, kinds := [], alts := [], laidByText := true, laidKinds := [.data, .data, .data], laidTests := true, laidLooks := .later }
def CursorSaysUptoCardSaid : Prop := Claim7.holds Tryd.pinned (.plain (OpenSpec.upto cursorSaysSpec)) cursorSaysUptoCard

/-- THE SECOND FORM's CARD OF 'diurnallaw19.CursorBack'. -/
def cursorBackUptoCard : Claim7 := { stood := { row := cursorBackUptoRow, standIns := [], harness := (true, "1e011e8beeb0a67d13aaacaf665dd2f2775ecf176310c87ecf79e164114960e4"), looks := false }, kinds := [], alts := [], laidByText := true, laidKinds := [.data, .data, .data], laidTests := true, laidLooks := .later }
def CursorBackUptoCardSaid : Prop := Claim7.holds Tryd.pinned (.plain (OpenSpec.upto cursorBackSpec)) cursorBackUptoCard

/-- THE SECOND FORM's CARD OF 'diurnallaw19.CursorOrder'. -/
def cursorOrderUptoCard : Claim7 := { stood := { row := cursorOrderUptoRow, standIns := [], harness := (true, "1e011e8beeb0a67d13aaacaf665dd2f2775ecf176310c87ecf79e164114960e4"), looks := false }, kinds := [], alts := [], laidByText := true, laidKinds := [.data, .data, .data], laidTests := true, laidLooks := .later }
def CursorOrderUptoCardSaid : Prop := Claim7.holds Tryd.pinned (.plain (OpenSpec.upto cursorOrderSpec)) cursorOrderUptoCard
end Rows
end Go.Proofs.YtpfkhcgeblihcaaDoor
