/-
  DERIVED. GIVEN WITH THE SEED: THE CARDS: each row of YtjkfckkmofcpdaaDoorRows.lean that lists a variable, with what it lists TIED to the program's text (the seventh form; the later family's looks); each row that meets fmt, with fmt's text TOLD by the authors' own Lean function (tested against real Go, not proved from fmt's source: count such statements apart). THE CARD IS WHAT COUNTS. Prove the row's statement (the work); the ties are given (YtjkfckkmofcpdaaDoorTie.lean); close each card by the builder's one call (the guide's Derived/Test/ToyasCard.lean, 'card_holds'). Laid BY PROGRAM, IN A SANDBOX (cutbox-door.mjs). By AI agents, Wed Nov 11 2026. No macro, syntax, notation, axiom, sorry.
-/
import Derived.Test.YtjkfckkmofcpdaaDoorRows
import GoSem.ClaimSeven
namespace Go.Proofs.YtjkfckkmofcpdaaDoor
namespace Rows

/-- THE TIED CARD OF 'cardnetlaw10.ElementFinds'. -/
def elementFindsCard : Claim7 := { stood := { row := elementFindsRow, standIns := [], harness := (true, "2f7dc386b4222f542937d9bf59c901aec37271d6b7fe1ac2d743bf5b3fef70ff"), looks := true }, kinds := [], alts := [], laidByText := true, laidKinds := [.data, .data, .data, .data, .sentinel, .sentinel, .data, .pinned], laidTests := true, laidLooks := .later }
def ElementFindsCardSaid : Prop := Claim7.holds Tryd.pinned (.plain (OpenSpec.ofChange elementFindsSpec)) elementFindsCard

/-- THE TIED CARD OF 'cardnetlaw10.ElementChecks'. -/
def elementChecksCard : Claim7 := { stood := { row := elementChecksRow, standIns := [], harness := (true, "2f7dc386b4222f542937d9bf59c901aec37271d6b7fe1ac2d743bf5b3fef70ff"), looks := true }, kinds := [], alts := [], laidByText := true, laidKinds := [.data, .data, .data, .data, .sentinel, .sentinel, .data, .pinned], laidTests := true, laidLooks := .later }
def ElementChecksCardSaid : Prop := Claim7.holds Tryd.pinned (.plain (OpenSpec.ofChange elementChecksSpec)) elementChecksCard

/-- THE TIED CARD OF 'cardnetlaw10.ElementDecodes'. -/
def elementDecodesCard : Claim7 := { stood := { row := elementDecodesRow, standIns := [], harness := (true, "2f7dc386b4222f542937d9bf59c901aec37271d6b7fe1ac2d743bf5b3fef70ff"), looks := true }, kinds := [], alts := [], laidByText := true, laidKinds := [.data, .data, .data, .data, .sentinel, .sentinel, .data, .pinned], laidTests := true, laidLooks := .later }
def ElementDecodesCardSaid : Prop := Claim7.holds Tryd.pinned (.plain (OpenSpec.ofChange elementDecodesSpec)) elementDecodesCard

/-- THE TIED CARD OF 'cardnetlaw10.ElementRoundTrip'. -/
def elementRoundTripCard : Claim7 := { stood := { row := elementRoundTripRow, standIns := [], harness := (true, "2f7dc386b4222f542937d9bf59c901aec37271d6b7fe1ac2d743bf5b3fef70ff"), looks := true }, kinds := [], alts := [], laidByText := true, laidKinds := [.data, .data, .data, .data, .sentinel, .sentinel, .data, .pinned], laidTests := true, laidLooks := .later }
def ElementRoundTripCardSaid : Prop := Claim7.holds Tryd.pinned (.plain (OpenSpec.ofChange elementRoundTripSpec)) elementRoundTripCard

/-- THE TIED CARD OF 'cardnetlaw10.ElementOnly'. -/
def elementOnlyCard : Claim7 := { stood := { row := elementOnlyRow, standIns := [], harness := (true, "2f7dc386b4222f542937d9bf59c901aec37271d6b7fe1ac2d743bf5b3fef70ff"), looks := true }, kinds := [], alts := [], laidByText := true, laidKinds := [.data, .data, .data, .data, .sentinel, .sentinel, .data, .pinned], laidTests := true, laidLooks := .later }
def ElementOnlyCardSaid : Prop := Claim7.holds Tryd.pinned (.plain (OpenSpec.ofChange elementOnlySpec)) elementOnlyCard

/-- THE TIED CARD OF 'cardnetlaw10.ElementNames'. -/
def elementNamesCard : Claim7 := { stood := { row := elementNamesRow, standIns := [], harness := (true, "2f7dc386b4222f542937d9bf59c901aec37271d6b7fe1ac2d743bf5b3fef70ff"), looks := true }, kinds := [], alts := [], laidByText := true, laidKinds := [.data, .data, .data, .data, .sentinel, .sentinel, .data, .pinned], laidTests := true, laidLooks := .later }
def ElementNamesCardSaid : Prop := Claim7.holds Tryd.pinned (.plain (OpenSpec.ofChange elementNamesSpec)) elementNamesCard

/-- THE SECOND FORM's CARD OF 'cardnetlaw10.ElementFinds'. -/
def elementFindsUptoCard : Claim7 := { stood := { row := elementFindsUptoRow, standIns := [], harness := (true, "2f7dc386b4222f542937d9bf59c901aec37271d6b7fe1ac2d743bf5b3fef70ff"), looks := true }, kinds := [], alts := [], laidByText := true, laidKinds := [.data, .data, .data, .data, .sentinel, .sentinel, .data, .pinned], laidTests := true, laidLooks := .later }
def ElementFindsUptoCardSaid : Prop := Claim7.holds Tryd.pinned (.plain (OpenSpec.upto elementFindsSpec)) elementFindsUptoCard

/-- THE SECOND FORM's CARD OF 'cardnetlaw10.ElementChecks'. -/
def elementChecksUptoCard : Claim7 := { stood := { row := elementChecksUptoRow, standIns := [], harness := (true, "2f7dc386b4222f542937d9bf59c901aec37271d6b7fe1ac2d743bf5b3fef70ff"), looks := true }, kinds := [], alts := [], laidByText := true, laidKinds := [.data, .data, .data, .data, .sentinel, .sentinel, .data, .pinned], laidTests := true, laidLooks := .later }
def ElementChecksUptoCardSaid : Prop := Claim7.holds Tryd.pinned (.plain (OpenSpec.upto elementChecksSpec)) elementChecksUptoCard

/-- THE SECOND FORM's CARD OF 'cardnetlaw10.ElementDecodes'. -/
def elementDecodesUptoCard : Claim7 := { stood := { row := elementDecodesUptoRow, standIns := [], harness := (true, "2f7dc386b4222f542937d9bf59c901aec37271d6b7fe1ac2d743bf5b3fef70ff"), looks := true }, kinds := [], alts := [], laidByText := true, laidKinds := [.data, .data, .data, .data, .sentinel, .sentinel, .data, .pinned], laidTests := true, laidLooks := .later }
def ElementDecodesUptoCardSaid : Prop := Claim7.holds Tryd.pinned (.plain (OpenSpec.upto elementDecodesSpec)) elementDecodesUptoCard

/-- THE SECOND FORM's CARD OF 'cardnetlaw10.ElementRoundTrip'. -/
def elementRoundTripUptoCard : Claim7 := { stood := { row := elementRoundTripUptoRow, standIns := [], harness := (true, "2f7dc386b4222f542937d9bf59c901aec37271d6b7fe1ac2d743bf5b3fef70ff"), looks := true }, kinds := [], alts := [], laidByText := true, laidKinds := [.data, .data, .data, .data, .sentinel, .sentinel, .data, .pinned], laidTests := true, laidLooks := .later }
def ElementRoundTripUptoCardSaid : Prop := Claim7.holds Tryd.pinned (.plain (OpenSpec.upto elementRoundTripSpec)) elementRoundTripUptoCard

/-- THE SECOND FORM's CARD OF 'cardnetlaw10.ElementOnly'. -/
def elementOnlyUptoCard : Claim7 := { stood := { row := elementOnlyUptoRow, standIns := [], harness := (true, "2f7dc386b4222f542937d9bf59c901aec37271d6b7fe1ac2d743bf5b3fef70ff"), looks := true }, kinds := [], alts := [], laidByText := true, laidKinds := [.data, .data, .data, .data, .sentinel, .sentinel, .data, .pinned], laidTests := true, laidLooks := .later }
def ElementOnlyUptoCardSaid : Prop := Claim7.holds Tryd.pinned (.plain (OpenSpec.upto elementOnlySpec)) elementOnlyUptoCard

/-- THE SECOND FORM's CARD OF 'cardnetlaw10.ElementNames'. -/
def elementNamesUptoCard : Claim7 := { stood := { row := elementNamesUptoRow, standIns := [], harness := (true, "2f7dc386b4222f542937d9bf59c901aec37271d6b7fe1ac2d743bf5b3fef70ff"), looks := true }, kinds := [], alts := [], laidByText := true, laidKinds := [.data, .data, .data, .data, .sentinel, .sentinel, .data, .pinned], laidTests := true, laidLooks := .later }
def ElementNamesUptoCardSaid : Prop := Claim7.holds Tryd.pinned (.plain (OpenSpec.upto elementNamesSpec)) elementNamesUptoCard
end Rows
end Go.Proofs.YtjkfckkmofcpdaaDoor
