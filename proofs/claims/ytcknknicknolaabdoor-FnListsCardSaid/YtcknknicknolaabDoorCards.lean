/-
  DERIVED. GIVEN WITH THE SEED: THE CARDS: each row of YtcknknicknolaabDoorRows.lean that lists a variable, with what it lists TIED to the program's text (the seventh form; the later family's looks); each row that meets fmt, with fmt's text TOLD by the authors' own Lean function (tested against real Go, not proved from fmt's source: count such statements apart). THE CARD IS WHAT COUNTS. Prove the row's statement (the work); the ties are given (YtcknknicknolaabDoorTie.lean); close each card by the builder's one call (the guide's Derived/Test/ToyasCard.lean, 'card_holds'). Laid BY PROGRAM, IN A SANDBOX (cutbox-door.mjs). By AI agents, Wed Nov 11 2026. No macro, syntax, notation, axiom, sorry.
-/
import Derived.Test.YtcknknicknolaabDoorRows
import GoSem.ClaimSeven
namespace Go.Proofs.YtcknknicknolaabDoor
namespace Rows

/-- THE TIED CARD OF 'laws.FnMeasures'. -/
def fnMeasuresCard : Claim7 := { stood := { row := fnMeasuresRow, standIns := [], harness := (true, "6ed391ab5447cd77cc67d9a6521627a5bd5769e1ea24759a314bf4767fe5397f"), looks := true }, kinds := [], alts := [], laidByText := true, laidKinds := [.data, .data, .data, .sentinel, .sentinel], laidTests := true, laidLooks := .later }
def FnMeasuresCardSaid : Prop := Claim7.holds Tryd.pinned (.plain (OpenSpec.ofChange fnMeasuresSpec)) fnMeasuresCard

/-- THE TIED CARD OF 'laws.FnIntervalTexts'. -/
def fnIntervalTextsCard : Claim7 := { stood := { row := fnIntervalTextsRow, standIns := [], harness := (true, "6ed391ab5447cd77cc67d9a6521627a5bd5769e1ea24759a314bf4767fe5397f"), looks := true }, kinds := [], alts := [], laidByText := true, laidKinds := [.data, .data, .data, .sentinel, .sentinel], laidTests := true, laidLooks := .later }
def FnIntervalTextsCardSaid : Prop := Claim7.holds Tryd.pinned (.plain (OpenSpec.ofChange fnIntervalTextsSpec)) fnIntervalTextsCard

/-- THE TIED CARD OF 'laws.FnLists'. -/
def fnListsCard : Claim7 := { stood := { row := fnListsRow, standIns := [], harness := (true, "6ed391ab5447cd77cc67d9a6521627a5bd5769e1ea24759a314bf4767fe5397f"), looks := true }, kinds := [], alts := [], laidByText := true, laidKinds := [.data, .data, .data, .data, .sentinel, .sentinel, .pinned], laidTests := true, laidLooks := .later }
def FnListsCardSaid : Prop := Claim7.holds Tryd.pinned (.plain (OpenSpec.ofChange fnListsSpec)) fnListsCard

/-- THE TIED CARD OF 'laws.FnWords'. -/
def fnWordsCard : Claim7 := { stood := { row := fnWordsRow, standIns := [], harness := (true, "6ed391ab5447cd77cc67d9a6521627a5bd5769e1ea24759a314bf4767fe5397f"), looks := true }, kinds := [], alts := [], laidByText := true, laidKinds := [.data, .pinned], laidTests := true, laidLooks := .later }
def FnWordsCardSaid : Prop := Claim7.holds Tryd.pinned (.plain (OpenSpec.ofChange fnWordsSpec)) fnWordsCard

/-- THE TIED CARD OF 'laws.FnExactIntervalText'. -/
def fnExactIntervalTextCard : Claim7 := { stood := { row := fnExactIntervalTextRow, standIns := [], harness := (true, "6ed391ab5447cd77cc67d9a6521627a5bd5769e1ea24759a314bf4767fe5397f"), looks := true }, kinds := [], alts := [], laidByText := true, laidKinds := [.data, .data, .data], laidTests := true, laidLooks := .later }
def FnExactIntervalTextCardSaid : Prop := Claim7.holds Tryd.pinned (.plain (OpenSpec.ofChange fnExactIntervalTextSpec)) fnExactIntervalTextCard

/-- THE TIED CARD OF 'laws.FnExactReadInterval'. -/
def fnExactReadIntervalCard : Claim7 := { stood := { row := fnExactReadIntervalRow, standIns := [], harness := (true, "6ed391ab5447cd77cc67d9a6521627a5bd5769e1ea24759a314bf4767fe5397f"), looks := true }, kinds := [], alts := [], laidByText := true, laidKinds := [.data, .data, .data, .sentinel, .sentinel], laidTests := true, laidLooks := .later }
def FnExactReadIntervalCardSaid : Prop := Claim7.holds Tryd.pinned (.plain (OpenSpec.ofChange fnExactReadIntervalSpec)) fnExactReadIntervalCard

/-- THE SECOND FORM's CARD OF 'laws.FnMeasures'. -/
def fnMeasuresUptoCard : Claim7 := { stood := { row := fnMeasuresUptoRow, standIns := [], harness := (true, "6ed391ab5447cd77cc67d9a6521627a5bd5769e1ea24759a314bf4767fe5397f"), looks := true }, kinds := [], alts := [], laidByText := true, laidKinds := [.data, .data, .data, .sentinel, .sentinel], laidTests := true, laidLooks := .later }
def FnMeasuresUptoCardSaid : Prop := Claim7.holds Tryd.pinned (.plain (OpenSpec.upto fnMeasuresSpec)) fnMeasuresUptoCard

/-- THE SECOND FORM's CARD OF 'laws.FnIntervalTexts'. -/
def fnIntervalTextsUptoCard : Claim7 := { stood := { row := fnIntervalTextsUptoRow, standIns := [], harness := (true, "6ed391ab5447cd77cc67d9a6521627a5bd5769e1ea24759a314bf4767fe5397f"), looks := true }, kinds := [], alts := [], laidByText := true, laidKinds := [.data, .data, .data, .sentinel, .sentinel], laidTests := true, laidLooks := .later }
def FnIntervalTextsUptoCardSaid : Prop := Claim7.holds Tryd.pinned (.plain (OpenSpec.upto fnIntervalTextsSpec)) fnIntervalTextsUptoCard

/-- THE SECOND FORM's CARD OF 'laws.FnLists'. -/
def fnListsUptoCard : Claim7 := { stood := { row := fnListsUptoRow, standIns := [], harness := (true, "6ed391ab5447cd77cc67d9a6521627a5bd5769e1ea24759a314bf4767fe5397f"), looks := true }, kinds := [], alts := [], laidByText := true, laidKinds := [.data, .data, .data, .data, .sentinel, .sentinel, .pinned], laidTests := true, laidLooks := .later }
def FnListsUptoCardSaid : Prop := Claim7.holds Tryd.pinned (.plain (OpenSpec.upto fnListsSpec)) fnListsUptoCard

/-- THE SECOND FORM's CARD OF 'laws.FnWords'. -/
def fnWordsUptoCard : Claim7 := { stood := { row := fnWordsUptoRow, standIns := [], harness := (true, "6ed391ab5447cd77cc67d9a6521627a5bd5769e1ea24759a314bf4767fe5397f"), looks := true }, kinds := [], alts := [], laidByText := true, laidKinds := [.data, .pinned], laidTests := true, laidLooks := .later }
def FnWordsUptoCardSaid : Prop := Claim7.holds Tryd.pinned (.plain (OpenSpec.upto fnWordsSpec)) fnWordsUptoCard

/-- THE SECOND FORM's CARD OF 'laws.FnExactIntervalText'. -/
def fnExactIntervalTextUptoCard : Claim7 := { stood := { row := fnExactIntervalTextUptoRow, standIns := [], harness := (true, "6ed391ab5447cd77cc67d9a6521627a5bd5769e1ea24759a314bf4767fe5397f"), looks := true }, kinds := [], alts := [], laidByText := true, laidKinds := [.data, .data, .data], laidTests := true, laidLooks := .later }
def FnExactIntervalTextUptoCardSaid : Prop := Claim7.holds Tryd.pinned (.plain (OpenSpec.upto fnExactIntervalTextSpec)) fnExactIntervalTextUptoCard

/-- THE SECOND FORM's CARD OF 'laws.FnExactReadInterval'. -/
def fnExactReadIntervalUptoCard : Claim7 := { stood := { row := fnExactReadIntervalUptoRow, standIns := [], harness := (true, "6ed391ab5447cd77cc67d9a6521627a5bd5769e1ea24759a314bf4767fe5397f"), looks := true }, kinds := [], alts := [], laidByText := true, laidKinds := [.data, .data, .data, .sentinel, .sentinel], laidTests := true, laidLooks := .later }
def FnExactReadIntervalUptoCardSaid : Prop := Claim7.holds Tryd.pinned (.plain (OpenSpec.upto fnExactReadIntervalSpec)) fnExactReadIntervalUptoCard
end Rows
end Go.Proofs.YtcknknicknolaabDoor
