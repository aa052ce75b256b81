/-
  DERIVED. GIVEN WITH THE SEED: THE CARDS: each row of YtcphhcnomaociabDoorRows.lean that lists a variable, with what it lists TIED to the program's text (the seventh form; the later family's looks); each row that meets fmt, with fmt's text TOLD by the authors' own Lean function (tested against real Go, not proved from fmt's source: count such statements apart). THE CARD IS WHAT COUNTS. Prove the row's statement (the work); the ties are given (YtcphhcnomaociabDoorTie.lean); close each card by the builder's one call (the guide's Derived/Test/ToyasCard.lean, 'card_holds'). Laid BY PROGRAM, IN A SANDBOX (cutbox-door.mjs). By AI agents, Wed Nov 11 2026. No macro, syntax, notation, axiom, sorry.
-/
import Derived.Test.YtcphhcnomaociabDoorRows
import GoSem.ClaimSeven
namespace Go.Proofs.YtcphhcnomaociabDoor
namespace Rows

/-- THE TIED CARD OF 'laws.FnHubTexts'. -/
def fnHubTextsCard : Claim7 := { stood := { row := fnHubTextsRow, standIns := [], harness := (true, "c886e7c8e234dbc2492def719bef60c067b9dd12f24eaffffbc35c97edbab648"), looks := true }, kinds := [], alts := [], laidByText := true, laidKinds := [.data, .data, .data, .data, .sentinel, .sentinel, .pinned], laidTests := true, laidLooks := .later }
def FnHubTextsCardSaid : Prop := Claim7.holds Tryd.pinned (.plain (OpenSpec.ofChange fnHubTextsSpec)) fnHubTextsCard

/-- THE TIED CARD OF 'laws.FnExactHubText'. -/
def fnExactHubTextCard : Claim7 := { stood := { row := fnExactHubTextRow, standIns := [], harness := (true, "c886e7c8e234dbc2492def719bef60c067b9dd12f24eaffffbc35c97edbab648"), looks := true }, kinds := [], alts := [], laidByText := true, laidKinds := [.data, .data, .data], laidTests := true, laidLooks := .later }
def FnExactHubTextCardSaid : Prop := Claim7.holds Tryd.pinned (.plain (OpenSpec.ofChange fnExactHubTextSpec)) fnExactHubTextCard

/-- THE TIED CARD OF 'laws.FnExactReadHub'. -/
def fnExactReadHubCard : Claim7 := { stood := { row := fnExactReadHubRow, standIns := [], harness := (true, "c886e7c8e234dbc2492def719bef60c067b9dd12f24eaffffbc35c97edbab648"), looks := true }, kinds := [], alts := [], laidByText := true, laidKinds := [.data, .data, .data, .data, .sentinel, .sentinel, .pinned], laidTests := true, laidLooks := .later }
def FnExactReadHubCardSaid : Prop := Claim7.holds Tryd.pinned (.plain (OpenSpec.ofChange fnExactReadHubSpec)) fnExactReadHubCard

/-- THE SECOND FORM's CARD OF 'laws.FnHubTexts'. -/
def fnHubTextsUptoCard : Claim7 := { stood := { row := fnHubTextsUptoRow, standIns := [], harness := (true, "c886e7c8e234dbc2492def719bef60c067b9dd12f24eaffffbc35c97edbab648"), looks := true }, kinds := [], alts := [], laidByText := true, laidKinds := [.data, .data, .data, .data, .sentinel, .sentinel, .pinned], laidTests := true, laidLooks := .later }
def FnHubTextsUptoCardSaid : Prop := Claim7.holds Tryd.pinned (.plain (OpenSpec.upto fnHubTextsSpec)) fnHubTextsUptoCard

/-- THE SECOND FORM's CARD OF 'laws.FnExactHubText'. -/
def fnExactHubTextUptoCard : Claim7 := { stood := { row := fnExactHubTextUptoRow, standIns := [], harness := (true, "c886e7c8e234dbc2492def719bef60c067b9dd12f24eaffffbc35c97edbab648"), looks := true }, kinds := [], alts := [], laidByText := true, laidKinds := [.data, .data, .data], laidTests := true, laidLooks := .later }
def FnExactHubTextUptoCardSaid : Prop := Claim7.holds Tryd.pinned (.plain (OpenSpec.upto fnExactHubTextSpec)) fnExactHubTextUptoCard

/-- THE SECOND FORM's CARD OF 'laws.FnExactReadHub'. -/
def fnExactReadHubUptoCard : Claim7 := { stood := { row := fnExactReadHubUptoRow, standIns := [], harness := (true, "c886e7c8e234dbc2492def719bef60c067b9dd12f24eaffffbc35c97edbab648"), looks := true }, kinds := [], alts := [], laidByText := true, laidKinds := [.data, .data, .data, .data, .sentinel, .sentinel, .pinned], laidTests := true, laidLooks := .later }
def FnExactReadHubUptoCardSaid : Prop := Claim7.holds Tryd.pinned (.plain (OpenSpec.upto fnExactReadHubSpec)) fnExactReadHubUptoCard
end Rows
end Go.Proofs.YtcphhcnomaociabDoor
