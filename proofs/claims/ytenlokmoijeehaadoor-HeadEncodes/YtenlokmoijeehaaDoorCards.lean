/-
  DERIVED. GIVEN WITH THE SEED: THE CARDS: each row of YtenlokmoijeehaaDoorRows.lean that lists a variable, with what it lists TIED to the program's text (the seventh form; the later family's looks); each row that meets fmt, with fmt's text TOLD by the authors' own Lean function (tested against real Go, not proved from fmt's source: count such statements apart). THE CARD IS WHAT COUNTS. Prove the row's statement (the work); the ties are given (YtenlokmoijeehaaDoorTie.lean); close each card by the builder's one call (the guide's Derived/Test/ToyasCard.lean, 'card_holds'). Laid BY PROGRAM, IN A SANDBOX (cutbox-door.mjs). By AI agents, Wed Nov 11 2026. No macro, syntax, notation, axiom, sorry.
-/
import Derived.Test.YtenlokmoijeehaaDoorRows
import GoSem.ClaimSeven
namespace Go.Proofs.YtenlokmoijeehaaDoor
namespace Rows

/-- THE TIED CARD OF 'casketlaw11.HeadEncodes'. -/
def headEncodesCard : Claim7 := { stood := { row := headEncodesRow, standIns := [], harness := (true, "c6778e048fbf137e2f74601eeb5bde0878db5224819cb54491e16c1c977a959e"), looks := false }, kinds := [], alts := [], laidByText := true, laidKinds := [.data], laidTests := true, laidLooks := .later }
def HeadEncodesCardSaid : Prop := Claim7.holds Tryd.pinned (.plain (OpenSpec.ofChange headEncodesSpec)) headEncodesCard

/-- THE TIED CARD OF 'casketlaw11.HeadDecodes'. -/
def headDecodesCard : Claim7 := { stood := { row := headDecodesRow, standIns := [], harness := (true, "c6778e048fbf137e2f74601eeb5bde0878db5224819cb54491e16c1c977a959e"), looks := false }, kinds := [], alts := [], laidByText := true, laidKinds := [.data], laidTests := true, laidLooks := .later }
def HeadDecodesCardSaid : Prop := Claim7.holds Tryd.pinned (.plain (OpenSpec.ofChange headDecodesSpec)) headDecodesCard

/-- THE TIED CARD OF 'casketlaw11.HeadChoose'. -/
def headChooseCard : Claim7 := { stood := { row := headChooseRow, standIns := [], harness := (true, "c6778e048fbf137e2f74601eeb5bde0878db5224819cb54491e16c1c977a959e"), looks := false }, kinds := [], alts := [], laidByText := true, laidKinds := [.data], laidTests := true, laidLooks := .later }
def HeadChooseCardSaid : Prop := Claim7.holds Tryd.pinned (.plain (OpenSpec.ofChange headChooseSpec)) headChooseCard

/-- THE TIED CARD OF 'casketlaw11.HeadParts'. -/
def headPartsCard : Claim7 := { stood := { row := headPartsRow, standIns := [], harness := (true, "c6778e048fbf137e2f74601eeb5bde0878db5224819cb54491e16c1c977a959e"), looks := false }, kinds := [], alts := [], laidByText := true, laidKinds := [.data], laidTests := true, laidLooks := .later }
def HeadPartsCardSaid : Prop := Claim7.holds Tryd.pinned (.plain (OpenSpec.ofChange headPartsSpec)) headPartsCard

/-- THE TIED CARD OF 'casketlaw11.HeadNewer'. -/
def headNewerCard : Claim7 := { stood := { row := headNewerRow, standIns := [], harness := (true, "c6778e048fbf137e2f74601eeb5bde0878db5224819cb54491e16c1c977a959e"), looks := false }, kinds := [], alts := [], laidByText := true, laidKinds := [.data], laidTests := true, laidLooks := .later }
def HeadNewerCardSaid : Prop := Claim7.holds Tryd.pinned (.plain (OpenSpec.ofChange headNewerSpec)) headNewerCard

/-- THE SECOND FORM's CARD OF 'casketlaw11.HeadEncodes'. -/
def headEncodesUptoCard : Claim7 := { stood := { row := headEncodesUptoRow, standIns := [], harness := (true, "c6778e048fbf137e2f74601eeb5bde0878db5224819cb54491e16c1c977a959e"), looks := false }, kinds := [], alts := [], laidByText := true, laidKinds := [.data], laidTests := true, laidLooks := .later }
def HeadEncodesUptoCardSaid : Prop := Claim7.holds Tryd.pinned (.plain (OpenSpec.upto headEncodesSpec)) headEncodesUptoCard

/-- THE SECOND FORM's CARD OF 'casketlaw11.HeadDecodes'. -/
def headDecodesUptoCard : Claim7 := { stood := { row := headDecodesUptoRow, standIns := [], harness := (true, "c6778e048fbf137e2f74601eeb5bde0878db5224819cb54491e16c1c977a959e"), looks := false }, kinds := [], alts := [], laidByText := true, laidKinds := [.data], laidTests := true, laidLooks := .later }
def HeadDecodesUptoCardSaid : Prop := Claim7.holds Tryd.pinned (.plain (OpenSpec.upto headDecodesSpec)) headDecodesUptoCard

/-- THE SECOND FORM's CARD OF 'casketlaw11.HeadChoose'. -/
def headChooseUptoCard : Claim7 := { stood := { row := headChooseUptoRow, standIns := [], harness := (true, "c6778e048fbf137e2f74601eeb5bde0878db5224819cb54491e16c1c977a959e"), looks := false }, kinds := [], alts := [], laidByText := true, laidKinds := [.data], laidTests := true, laidLooks := .later }
def HeadChooseUptoCardSaid : Prop := Claim7.holds Tryd.pinned (.plain (OpenSpec.upto headChooseSpec)) headChooseUptoCard

/-- THE SECOND FORM's CARD OF 'casketlaw11.HeadParts'. -/
def headPartsUptoCard : Claim7 := { stood := { row := headPartsUptoRow, standIns := [], harness := (true, "c6778e048fbf137e2f74601eeb5bde0878db5224819cb54491e16c1c977a959e"), looks := false }, kinds := [], alts := [], laidByText := true, laidKinds := [.data], laidTests := true, laidLooks := .later }
def HeadPartsUptoCardSaid : Prop := Claim7.holds Tryd.pinned (.plain (OpenSpec.upto headPartsSpec)) headPartsUptoCard

/-- THE SECOND FORM's CARD OF 'casketlaw11.HeadNewer'. -/
def headNewerUptoCard : Claim7 := { stood := { row := headNewerUptoRow, standIns := [], harness := (true, "c6778e048fbf137e2f74601eeb5bde0878db5224819cb54491e16c1c977a959e"), looks := false }, kinds := [], alts := [], laidByText := true, laidKinds := [.data], laidTests := true, laidLooks := .later }
def HeadNewerUptoCardSaid : Prop := Claim7.holds Tryd.pinned (.plain (OpenSpec.upto headNewerSpec)) headNewerUptoCard
end Rows
end Go.Proofs.YtenlokmoijeehaaDoor
