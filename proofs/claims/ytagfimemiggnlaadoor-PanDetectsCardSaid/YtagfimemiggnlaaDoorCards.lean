/-
  DERIVED. GIVEN WITH THE SEED: THE CARDS: each row of YtagfimemiggnlaaDoorRows.lean that lists a variable, with what it lists TIED to the program's text (the seventh form; the later family's looks); each row that meets fmt, with fmt's text TOLD by the authors' own Lean function (tested against real Go, not proved from fmt's source: count such statements apart). THE CARD IS WHAT COUNTS. Prove the row's statement (the work); the ties are given (YtagfimemiggnlaaDoorTie.lean); close each card by the builder's one call (the guide's Derived/Test/ToyasCard.lean, 'card_holds'). Laid BY PROGRAM, IN A SANDBOX (cutbox-door.mjs). By AI agents, Wed Nov 11 2026. No macro, syntax, notation, axiom, sorry.
-/
import Derived.Test.YtagfimemiggnlaaDoorRows
import GoSem.ClaimSeven
namespace Go.Proofs.YtagfimemiggnlaaDoor
namespace Rows

/-- THE TIED CARD OF 'cardnetlaw04.PanChecks'. -/
def panChecksCard : Claim7 := { stood := { row := panChecksRow, standIns := [], harness := (true, "c5670b3e65a9eff5c68e17e939562a81273839c77832b25b69174c6a1755d729"), looks := true }, kinds := [], alts := [], laidByText := true, laidKinds := [.data, .data, .data, .sentinel, .sentinel], laidTests := true, laidLooks := .later }
def PanChecksCardSaid : Prop := Claim7.holds Tryd.pinned (.plain (OpenSpec.ofChange panChecksSpec)) panChecksCard

/-- THE TIED CARD OF 'cardnetlaw04.PanMakes'. -/
def panMakesCard : Claim7 := { stood := { row := panMakesRow, standIns := [], harness := (true, "c5670b3e65a9eff5c68e17e939562a81273839c77832b25b69174c6a1755d729"), looks := true }, kinds := [], alts := [], laidByText := true, laidKinds := [.data, .data, .data, .sentinel, .sentinel], laidTests := true, laidLooks := .later }
def PanMakesCardSaid : Prop := Claim7.holds Tryd.pinned (.plain (OpenSpec.ofChange panMakesSpec)) panMakesCard

/-- THE TIED CARD OF 'cardnetlaw04.PanFinds'. -/
def panFindsCard : Claim7 := { stood := { row := panFindsRow, standIns := [], harness := (true, "c5670b3e65a9eff5c68e17e939562a81273839c77832b25b69174c6a1755d729"), looks := true }, kinds := [], alts := [], laidByText := true, laidKinds := [.data, .data, .data, .sentinel, .sentinel], laidTests := true, laidLooks := .later }
def PanFindsCardSaid : Prop := Claim7.holds Tryd.pinned (.plain (OpenSpec.ofChange panFindsSpec)) panFindsCard

/-- THE TIED CARD OF 'cardnetlaw04.PanStrips'. -/
def panStripsCard : Claim7 := { stood := { row := panStripsRow, standIns := [], harness := (true, "c5670b3e65a9eff5c68e17e939562a81273839c77832b25b69174c6a1755d729"), looks := true }, kinds := [], alts := [], laidByText := true, laidKinds := [.data, .data, .data, .sentinel, .sentinel], laidTests := true, laidLooks := .later }
def PanStripsCardSaid : Prop := Claim7.holds Tryd.pinned (.plain (OpenSpec.ofChange panStripsSpec)) panStripsCard

/-- THE TIED CARD OF 'cardnetlaw04.PanDetects'. -/
def panDetectsCard : Claim7 := { stood := { row := panDetectsRow, standIns := [], harness := (true, "c5670b3e65a9eff5c68e17e939562a81273839c77832b25b69174c6a1755d729"), looks := true }, kinds := [], alts := [], laidByText := true, laidKinds := [.data, .data, .data, .sentinel, .sentinel], laidTests := true, laidLooks := .later }
def PanDetectsCardSaid : Prop := Claim7.holds Tryd.pinned (.plain (OpenSpec.ofChange panDetectsSpec)) panDetectsCard

/-- THE TIED CARD OF 'cardnetlaw04.PanNumbers'. -/
def panNumbersCard : Claim7 := { stood := { row := panNumbersRow, standIns := [], harness := (true, "c5670b3e65a9eff5c68e17e939562a81273839c77832b25b69174c6a1755d729"), looks := true }, kinds := [], alts := [], laidByText := true, laidKinds := [.data, .data, .data, .sentinel, .sentinel], laidTests := true, laidLooks := .later }
def PanNumbersCardSaid : Prop := Claim7.holds Tryd.pinned (.plain (OpenSpec.ofChange panNumbersSpec)) panNumbersCard

/-- THE TIED CARD OF 'cardnetlaw04.PanGroups'. -/
def panGroupsCard : Claim7 := { stood := { row := panGroupsRow, standIns := [], harness := (true, "c5670b3e65a9eff5c68e17e939562a81273839c77832b25b69174c6a1755d729"), looks := true }, kinds := [], alts := [], laidByText := true, laidKinds := [.data, .data, .data, .sentinel, .sentinel], laidTests := true, laidLooks := .later }
def PanGroupsCardSaid : Prop := Claim7.holds Tryd.pinned (.plain (OpenSpec.ofChange panGroupsSpec)) panGroupsCard

/-- THE SECOND FORM's CARD OF 'cardnetlaw04.PanChecks'. -/
def panChecksUptoCard : Claim7 := { stood := { row := panChecksUptoRow, standIns := [], harness := (true, "c5670b3e65a9eff5c68e17e939562a81273839c77832b25b69174c6a1755d729"), looks := true }, kinds := [], alts := [], laidByText := true, laidKinds := [.data, .data, .data, .sentinel, .sentinel], laidTests := true, laidLooks := .later }
def PanChecksUptoCardSaid : Prop := Claim7.holds Tryd.pinned (.plain (OpenSpec.upto panChecksSpec)) panChecksUptoCard

/-- THE SECOND FORM's CARD OF 'cardnetlaw04.PanMakes'. -/
def panMakesUptoCard : Claim7 := { stood := { row := panMakesUptoRow, standIns := [], harness := (true, "c5670b3e65a9eff5c68e17e939562a81273839c77832b25b69174c6a1755d729"), looks := true }, kinds := [], alts := [], laidByText := true, laidKinds := [.data, .data, .data, .sentinel, .sentinel], laidTests := true, laidLooks := .later }
def PanMakesUptoCardSaid : Prop := Claim7.holds Tryd.pinned (.plain (OpenSpec.upto panMakesSpec)) panMakesUptoCard

/-- THE SECOND FORM's CARD OF 'cardnetlaw04.PanFinds'. -/
def panFindsUptoCard : Claim7 := { stood := { row := panFindsUptoRow, standIns := [], harness := (true, "c5670b3e65a9eff5c68e17e939562a81273839c77832b25b69174c6a1755d729"), looks := true }, kinds := [], alts := [], laidByText := true, laidKinds := [.data, .data, .data, .sentinel, .sentinel], laidTests := true, laidLooks := .later }
def PanFindsUptoCardSaid : Prop := Claim7.holds Tryd.pinned (.plain (OpenSpec.upto panFindsSpec)) panFindsUptoCard

/-- THE SECOND FORM's CARD OF 'cardnetlaw04.PanStrips'. -/
def panStripsUptoCard : Claim7 := { stood := { row := panStripsUptoRow, standIns := [], harness := (true, "c5670b3e65a9eff5c68e17e939562a81273839c77832b25b69174c6a1755d729"), looks := true }, kinds := [], alts := [], laidByText := true, laidKinds := [.data, .data, .data, .sentinel, .sentinel], laidTests := true, laidLooks := .later }
def PanStripsUptoCardSaid : Prop := Claim7.holds Tryd.pinned (.plain (OpenSpec.upto panStripsSpec)) panStripsUptoCard

/-- THE SECOND FORM's CARD OF 'cardnetlaw04.PanDetects'. -/
def panDetectsUptoCard : Claim7 := { stood := { row := panDetectsUptoRow, standIns := [], harness := (true, "c5670b3e65a9eff5c68e17e939562a81273839c77832b25b69174c6a1755d729"), looks := true }, kinds := [], alts := [], laidByText := true, laidKinds := [.data, .data, .data, .sentinel, .sentinel], laidTests := true, laidLooks := .later }
def PanDetectsUptoCardSaid : Prop := Claim7.holds Tryd.pinned (.plain (OpenSpec.upto panDetectsSpec)) panDetectsUptoCard

/-- THE SECOND FORM's CARD OF 'cardnetlaw04.PanNumbers'. -/
def panNumbersUptoCard : Claim7 := { stood := { row := panNumbersUptoRow, standIns := [], harness := (true, "c5670b3e65a9eff5c68e17e939562a81273839c77832b25b69174c6a1755d729"), looks := true }, kinds := [], alts := [], laidByText := true, laidKinds := [.data, .data, .data, .sentinel, .sentinel], laidTests := true, laidLooks := .later }
def PanNumbersUptoCardSaid : Prop := Claim7.holds Tryd.pinned (.plain (OpenSpec.upto panNumbersSpec)) panNumbersUptoCard

/-- THE SECOND FORM's CARD OF 'cardnetlaw04.PanGroups'. -/
def panGroupsUptoCard : Claim7 := { stood := { row := panGroupsUptoRow, standIns := [], harness := (true, "c5670b3e65a9eff5c68e17e939562a81273839c77832b25b69174c6a1755d729"), looks := true }, kinds := [], alts := [], laidByText := true, laidKinds := [.data, .data, .data, .sentinel, .sentinel], laidTests := true, laidLooks := .later }
def PanGroupsUptoCardSaid : Prop := Claim7.holds Tryd.pinned (.plain (OpenSpec.upto panGroupsSpec)) panGroupsUptoCard
end Rows
end Go.Proofs.YtagfimemiggnlaaDoor
