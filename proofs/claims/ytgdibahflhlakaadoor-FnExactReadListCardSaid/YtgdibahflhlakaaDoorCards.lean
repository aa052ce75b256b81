/-
  DERIVED. GIVEN WITH THE SEED: THE CARDS: each row of YtgdibahflhlakaaDoorRows.lean that lists a variable, with what it lists TIED to the program's text (the seventh form; the later family's looks); each row that meets fmt, with fmt's text TOLD by the authors' own Lean function (tested against real Go, not proved from fmt's source: count such statements apart). THE CARD IS WHAT COUNTS. Prove the row's statement (the work); the ties are given (YtgdibahflhlakaaDoorTie.lean); close each card by the builder's one call (the guide's Derived/Test/ToyasCard.lean, 'card_holds'). Laid BY PROGRAM, IN A SANDBOX (cutbox-door.mjs). By AI agents, Wed Nov 11 2026. No macro, syntax, notation, axiom, sorry.
-/
import Derived.Test.YtgdibahflhlakaaDoorRows
import GoSem.ClaimSeven
namespace Go.Proofs.YtgdibahflhlakaaDoor
namespace Rows

/-- THE TIED CARD OF 'laws.FnWords'. -/
def fnWordsCard : Claim7 := { stood := { row := fnWordsRow, standIns := [], harness := (true, "66eebc03d5c886aacf03e8179c89f627155845ea085542e859f7c6effdf78e6e"), looks := true }, kinds := [], alts := [], laidByText := true, laidKinds := [.data, .pinned], laidTests := true, laidLooks := .later }
def FnWordsCardSaid : Prop := Claim7.holds Tryd.pinned (.plain (OpenSpec.ofChange fnWordsSpec)) fnWordsCard

/-- THE TIED CARD OF 'laws.FnLists'. -/
def fnListsCard : Claim7 := { stood := { row := fnListsRow, standIns := [], harness := (true, "66eebc03d5c886aacf03e8179c89f627155845ea085542e859f7c6effdf78e6e"), looks := true }, kinds := [], alts := [], laidByText := true, laidKinds := [.data, .data, .data, .data, .sentinel, .sentinel, .pinned], laidTests := true, laidLooks := .later }
def FnListsCardSaid : Prop := Claim7.holds Tryd.pinned (.plain (OpenSpec.ofChange fnListsSpec)) fnListsCard

/-- THE TIED CARD OF 'laws.FnMeasures'. -/
def fnMeasuresCard : Claim7 := { stood := { row := fnMeasuresRow, standIns := [], harness := (true, "66eebc03d5c886aacf03e8179c89f627155845ea085542e859f7c6effdf78e6e"), looks := true }, kinds := [], alts := [], laidByText := true, laidKinds := [.data, .data, .data, .sentinel, .sentinel], laidTests := true, laidLooks := .later }
def FnMeasuresCardSaid : Prop := Claim7.holds Tryd.pinned (.plain (OpenSpec.ofChange fnMeasuresSpec)) fnMeasuresCard

/-- THE TIED CARD OF 'laws.FnExactReadWords'. -/
def fnExactReadWordsCard : Claim7 := { stood := { row := fnExactReadWordsRow, standIns := [], harness := (true, "66eebc03d5c886aacf03e8179c89f627155845ea085542e859f7c6effdf78e6e"), looks := true }, kinds := [], alts := [], laidByText := true, laidKinds := [.data, .pinned], laidTests := true, laidLooks := .later }
def FnExactReadWordsCardSaid : Prop := Claim7.holds Tryd.pinned (.plain (OpenSpec.ofChange fnExactReadWordsSpec)) fnExactReadWordsCard

/-- THE TIED CARD OF 'laws.FnExactListText'. -/
def fnExactListTextCard : Claim7 := { stood := { row := fnExactListTextRow, standIns := [], harness := (true, "66eebc03d5c886aacf03e8179c89f627155845ea085542e859f7c6effdf78e6e"), looks := true }, kinds := [], alts := [], laidByText := true, laidKinds := [.data, .data, .data], laidTests := true, laidLooks := .later }
def FnExactListTextCardSaid : Prop := Claim7.holds Tryd.pinned (.plain (OpenSpec.ofChange fnExactListTextSpec)) fnExactListTextCard

/-- THE TIED CARD OF 'laws.FnExactReadList'. -/
def fnExactReadListCard : Claim7 := { stood := { row := fnExactReadListRow, standIns := [], harness := (true, "66eebc03d5c886aacf03e8179c89f627155845ea085542e859f7c6effdf78e6e"), looks := true }, kinds := [], alts := [], laidByText := true, laidKinds := [.data, .data, .data, .data, .sentinel, .sentinel, .pinned], laidTests := true, laidLooks := .later }
def FnExactReadListCardSaid : Prop := Claim7.holds Tryd.pinned (.plain (OpenSpec.ofChange fnExactReadListSpec)) fnExactReadListCard

/-- THE TIED CARD OF 'laws.FnExactMeasureText'. -/
def fnExactMeasureTextCard : Claim7 := { stood := { row := fnExactMeasureTextRow, standIns := [], harness := (true, "66eebc03d5c886aacf03e8179c89f627155845ea085542e859f7c6effdf78e6e"), looks := true }, kinds := [], alts := [], laidByText := true, laidKinds := [.data, .data, .data], laidTests := true, laidLooks := .later }
def FnExactMeasureTextCardSaid : Prop := Claim7.holds Tryd.pinned (.plain (OpenSpec.ofChange fnExactMeasureTextSpec)) fnExactMeasureTextCard

/-- THE TIED CARD OF 'laws.FnExactReadMeasure'. -/
def fnExactReadMeasureCard : Claim7 := { stood := { row := fnExactReadMeasureRow, standIns := [], harness := (true, "66eebc03d5c886aacf03e8179c89f627155845ea085542e859f7c6effdf78e6e"), looks := true }, kinds := [], alts := [], laidByText := true, laidKinds := [.data, .data, .data, .sentinel, .sentinel], laidTests := true, laidLooks := .later }
def FnExactReadMeasureCardSaid : Prop := Claim7.holds Tryd.pinned (.plain (OpenSpec.ofChange fnExactReadMeasureSpec)) fnExactReadMeasureCard

/-- THE SECOND FORM's CARD OF 'laws.FnWords'. -/
def fnWordsUptoCard : Claim7 := { stood := { row := fnWordsUptoRow, standIns := [], harness := (true, "66eebc03d5c886aacf03e8179c89f627155845ea085542e859f7c6effdf78e6e"), looks := true }, kinds := [], alts := [], laidByText := true, laidKinds := [.data, .pinned], laidTests := true, laidLooks := .later }
def FnWordsUptoCardSaid : Prop := Claim7.holds Tryd.pinned (.plain (OpenSpec.upto fnWordsSpec)) fnWordsUptoCard

/-- THE SECOND FORM's CARD OF 'laws.FnLists'. -/
def fnListsUptoCard : Claim7 := { stood := { row := fnListsUptoRow, standIns := [], harness := (true, "66eebc03d5c886aacf03e8179c89f627155845ea085542e859f7c6effdf78e6e"), looks := true }, kinds := [], alts := [], laidByText := true, laidKinds := [.data, .data, .data, .data, .sentinel, .sentinel, .pinned], laidTests := true, laidLooks := .later }
def FnListsUptoCardSaid : Prop := Claim7.holds Tryd.pinned (.plain (OpenSpec.upto fnListsSpec)) fnListsUptoCard

/-- THE SECOND FORM's CARD OF 'laws.FnMeasures'. -/
def fnMeasuresUptoCard : Claim7 := { stood := { row := fnMeasuresUptoRow, standIns := [], harness := (true, "66eebc03d5c886aacf03e8179c89f627155845ea085542e859f7c6effdf78e6e"), looks := true }, kinds := [], alts := [], laidByText := true, laidKinds := [.data, .data, .data, .sentinel, .sentinel], laidTests := true, laidLooks := .later }
def FnMeasuresUptoCardSaid : Prop := Claim7.holds Tryd.pinned (.plain (OpenSpec.upto fnMeasuresSpec)) fnMeasuresUptoCard

/-- THE SECOND FORM's CARD OF 'laws.FnExactReadWords'. -/
def fnExactReadWordsUptoCard : Claim7 := { stood := { row := fnExactReadWordsUptoRow, standIns := [], harness := (true, "66eebc03d5c886aacf03e8179c89f627155845ea085542e859f7c6effdf78e6e"), looks := true }, kinds := [], alts := [], laidByText := true, laidKinds := [.data, .pinned], laidTests := true, laidLooks := .later }
def FnExactReadWordsUptoCardSaid : Prop := Claim7.holds Tryd.pinned (.plain (OpenSpec.upto fnExactReadWordsSpec)) fnExactReadWordsUptoCard

/-- THE SECOND FORM's CARD OF 'laws.FnExactListText'. -/
def fnExactListTextUptoCard : Claim7 := { stood := { row := fnExactListTextUptoRow, standIns := [], harness := (true, "66eebc03d5c886aacf03e8179c89f627155845ea085542e859f7c6effdf78e6e"), looks := true }, kinds := [], alts := [], laidByText := true, laidKinds := [.data, .data, .data], laidTests := true, laidLooks := .later }
def FnExactListTextUptoCardSaid : Prop := Claim7.holds Tryd.pinned (.plain (OpenSpec.upto fnExactListTextSpec)) fnExactListTextUptoCard

/-- THE SECOND FORM's CARD OF 'laws.FnExactReadList'. -/
def fnExactReadListUptoCard : Claim7 := { stood := { row := fnExactReadListUptoRow, standIns := [], harness := (true, "66eebc03d5c886aacf03e8179c89f627155845ea085542e859f7c6effdf78e6e"), looks := true }, kinds := [], alts := [], laidByText := true, laidKinds := [.data, .data, .data, .data, .sentinel, .sentinel, .pinned], laidTests := true, laidLooks := .later }
def FnExactReadListUptoCardSaid : Prop := Claim7.holds Tryd.pinned (.plain (OpenSpec.upto fnExactReadListSpec)) fnExactReadListUptoCard

/-- THE SECOND FORM's CARD OF 'laws.FnExactMeasureText'. -/
def fnExactMeasureTextUptoCard : Claim7 := { stood := { row := fnExactMeasureTextUptoRow, standIns := [], harness := (true, "66eebc03d5c886aacf03e8179c89f627155845ea085542e859f7c6effdf78e6e"), looks := true }, kinds := [], alts := [], laidByText := true, laidKinds := [.data, .data, .data], laidTests := true, laidLooks := .later }
def FnExactMeasureTextUptoCardSaid : Prop := Claim7.holds Tryd.pinned (.plain (OpenSpec.upto fnExactMeasureTextSpec)) fnExactMeasureTextUptoCard

/-- THE SECOND FORM's CARD OF 'laws.FnExactReadMeasure'. -/
def fnExactReadMeasureUptoCard : Claim7 := { stood := { row := fnExactReadMeasureUptoRow, standIns := [], harness := (true, "66eebc03d5c886aacf03e8179c89f627155845ea085542e859f7c6effdf78e6e"), looks := true }, kinds := [], alts := [], laidByText := true, laidKinds := [.data, .data, .data, .sentinel, .sentinel], laidTests := true, laidLooks := .later }
def FnExactReadMeasureUptoCardSaid : Prop := Claim7.holds Tryd.pinned (.plain (OpenSpec.upto fnExactReadMeasureSpec)) fnExactReadMeasureUptoCard
end Rows
end Go.Proofs.YtgdibahflhlakaaDoor
