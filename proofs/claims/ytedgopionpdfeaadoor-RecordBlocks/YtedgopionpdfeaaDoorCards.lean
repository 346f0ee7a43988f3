/-
  DERIVED. GIVEN WITH THE SEED: THE CARDS: each row of YtedgopionpdfeaaDoorRows.lean that lists a variable, with what it lists TIED to the program's text (the seventh form; the later family's looks); each row that meets fmt, with fmt's text TOLD by the authors' own Lean function (tested against real Go, not proved from fmt's source: count such statements apart). THE CARD IS WHAT COUNTS. Prove the row's statement (the work); the ties are given (YtedgopionpdfeaaDoorTie.lean); close each card by the builder's one call (the guide's Derived/Test/ToyasCard.lean, 'card_holds'). Laid BY PROGRAM, IN A SANDBOX (cutbox-door.mjs). By AI agents, Wed Nov 11 2026. No macro, syntax, notation, axiom, sorry.
-/
import Derived.Test.YtedgopionpdfeaaDoorRows
import GoSem.ClaimSeven
namespace Go.Proofs.YtedgopionpdfeaaDoor
namespace Rows

/-- THE TIED CARD OF 'casketlaw13.RecordBlocks'. -/
def recordBlocksCard : Claim7 := { stood := { row := recordBlocksRow, standIns := [], harness := (true, "fff732fe276e655770a36a4c7c94a2aa0fb8b865ac42a94f0baed399a1358507"), looks := false }, kinds := [], alts := [], laidByText := true, laidKinds := [.data], laidTests := true, laidLooks := .later }
def RecordBlocksCardSaid : Prop := Claim7.holds Tryd.pinned (.plain (OpenSpec.ofChange recordBlocksSpec)) recordBlocksCard

/-- THE TIED CARD OF 'casketlaw13.RecordParse'. -/
def recordParseCard : Claim7 := { stood := { row := recordParseRow, standIns := [], harness := (true, "fff732fe276e655770a36a4c7c94a2aa0fb8b865ac42a94f0baed399a1358507"), looks := false }, kinds := [], alts := [], laidByText := true, laidKinds := [.data], laidTests := true, laidLooks := .later }
def RecordParseCardSaid : Prop := Claim7.holds Tryd.pinned (.plain (OpenSpec.ofChange recordParseSpec)) recordParseCard

/-- THE TIED CARD OF 'casketlaw13.RecordPlans'. -/
def recordPlansCard : Claim7 := { stood := { row := recordPlansRow, standIns := [], harness := (true, "fff732fe276e655770a36a4c7c94a2aa0fb8b865ac42a94f0baed399a1358507"), looks := false }, kinds := [], alts := [], laidByText := true, laidKinds := [.data], laidTests := true, laidLooks := .later }
def RecordPlansCardSaid : Prop := Claim7.holds Tryd.pinned (.plain (OpenSpec.ofChange recordPlansSpec)) recordPlansCard

/-- THE TIED CARD OF 'casketlaw13.RecordMarks'. -/
def recordMarksCard : Claim7 := { stood := { row := recordMarksRow, standIns := [], harness := (true, "fff732fe276e655770a36a4c7c94a2aa0fb8b865ac42a94f0baed399a1358507"), looks := false }, kinds := [], alts := [], laidByText := true, laidKinds := [.data], laidTests := true, laidLooks := .later }
def RecordMarksCardSaid : Prop := Claim7.holds Tryd.pinned (.plain (OpenSpec.ofChange recordMarksSpec)) recordMarksCard

/-- THE TIED CARD OF 'casketlaw13.RecordApart'. -/
def recordApartCard : Claim7 := { stood := { row := recordApartRow, standIns := [], harness := (true, "fff732fe276e655770a36a4c7c94a2aa0fb8b865ac42a94f0baed399a1358507"), looks := false }, kinds := [], alts := [], laidByText := true, laidKinds := [.data], laidTests := true, laidLooks := .later }
def RecordApartCardSaid : Prop := Claim7.holds Tryd.pinned (.plain (OpenSpec.ofChange recordApartSpec)) recordApartCard

/-- THE SECOND FORM's CARD OF 'casketlaw13.RecordBlocks'. -/
def recordBlocksUptoCard : Claim7 := { stood := { row := recordBlocksUptoRow, standIns := [], harness := (true, "fff732fe276e655770a36a4c7c94a2aa0fb8b865ac42a94f0baed399a1358507"), looks := false }, kinds := [], alts := [], laidByText := true, laidKinds := [.data], laidTests := true, laidLooks := .later }
def RecordBlocksUptoCardSaid : Prop := Claim7.holds Tryd.pinned (.plain (OpenSpec.upto recordBlocksSpec)) recordBlocksUptoCard

/-- THE SECOND FORM's CARD OF 'casketlaw13.RecordParse'. -/
def recordParseUptoCard : Claim7 := { stood := { row := recordParseUptoRow, standIns := [], harness := (true, "fff732fe276e655770a36a4c7c94a2aa0fb8b865ac42a94f0baed399a1358507"), looks := false }, kinds := [], alts := [], laidByText := true, laidKinds := [.data], laidTests := true, laidLooks := .later }
def RecordParseUptoCardSaid : Prop := Claim7.holds Tryd.pinned (.plain (OpenSpec.upto recordParseSpec)) recordParseUptoCard

/-- THE SECOND FORM's CARD OF 'casketlaw13.RecordPlans'. -/
def recordPlansUptoCard : Claim7 := { stood := { row := recordPlansUptoRow, standIns := [], harness := (true, "fff732fe276e655770a36a4c7c94a2aa0fb8b865ac42a94f0baed399a1358507"), looks := false }, kinds := [], alts := [], laidByText := true, laidKinds := [.data], laidTests := true, laidLooks := .later }
def RecordPlansUptoCardSaid : Prop := Claim7.holds Tryd.pinned (.plain (OpenSpec.upto recordPlansSpec)) recordPlansUptoCard

/-- THE SECOND FORM's CARD OF 'casketlaw13.RecordMarks'. -/
def recordMarksUptoCard : Claim7 := { stood := { row := recordMarksUptoRow, standIns := [], harness := (true, "fff732fe276e655770a36a4c7c94a2aa0fb8b865ac42a94f0baed399a1358507"), looks := false }, kinds := [], alts := [], laidByText := true, laidKinds := [.data], laidTests := true, laidLooks := .later }
def RecordMarksUptoCardSaid : Prop := Claim7.holds Tryd.pinned (.plain (OpenSpec.upto recordMarksSpec)) recordMarksUptoCard

/-- THE SECOND FORM's CARD OF 'casketlaw13.RecordApart'. -/
def recordApartUptoCard : Claim7 := { stood := { row := recordApartUptoRow, standIns := [], harness := (true, "fff732fe276e655770a36a4c7c94a2aa0fb8b865ac42a94f0baed399a1358507"), looks := false }, kinds := [], alts := [], laidByText := true, laidKinds := [.data], laidTests := true, laidLooks := .later }
def RecordApartUptoCardSaid : Prop := Claim7.holds Tryd.pinned (.plain (OpenSpec.upto recordApartSpec)) recordApartUptoCard
end Rows
end Go.Proofs.YtedgopionpdfeaaDoor
