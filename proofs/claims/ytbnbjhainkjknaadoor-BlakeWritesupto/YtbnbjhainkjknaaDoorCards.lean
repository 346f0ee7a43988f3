/-
  DERIVED. GIVEN WITH THE SEED: THE CARDS: each row of YtbnbjhainkjknaaDoorRows.lean that lists a variable, with what it lists TIED to the program's text (the seventh form; the later family's looks); each row that meets fmt, with fmt's text TOLD by the authors' own Lean function (tested against real Go, not proved from fmt's source: count such statements apart). THE CARD IS WHAT COUNTS. Prove the row's statement (the work); the ties are given (YtbnbjhainkjknaaDoorTie.lean); close each card by the builder's one call (the guide's Derived/Test/ToyasCard.lean, 'card_holds'). Laid BY PROGRAM, IN A SANDBOX (cutbox-door.mjs). By AI agents, Wed Nov 11 2026. No macro, syntax, notation, axiom, sorry.
-/
import Derived.Test.YtbnbjhainkjknaaDoorRows
import GoSem.ClaimSeven
namespace Go.Proofs.YtbnbjhainkjknaaDoor
namespace Rows

/-- THE TIED CARD OF 'casketlaw06.BlakeSums'. -/
def blakeSumsCard : Claim7 := { stood := { row := blakeSumsRow, standIns := [], harness := (true, "dfbb7370cd753572c851c0f8f2f586e223f725966985cca0c84a628722e25faf"), looks := false }, kinds := [], alts := [], laidByText := true, laidKinds := [.data], laidTests := true, laidLooks := .later }
def BlakeSumsCardSaid : Prop := Claim7.holds Tryd.pinned (.plain (OpenSpec.ofChange blakeSumsSpec)) blakeSumsCard

/-- THE TIED CARD OF 'casketlaw06.BlakePieces'. -/
def blakePiecesCard : Claim7 := { stood := { row := blakePiecesRow, standIns := [], harness := (true, "dfbb7370cd753572c851c0f8f2f586e223f725966985cca0c84a628722e25faf"), looks := false }, kinds := [], alts := [], laidByText := true, laidKinds := [.data], laidTests := true, laidLooks := .later }
def BlakePiecesCardSaid : Prop := Claim7.holds Tryd.pinned (.plain (OpenSpec.ofChange blakePiecesSpec)) blakePiecesCard

/-- THE TIED CARD OF 'casketlaw06.BlakeWrites'. -/
def blakeWritesCard : Claim7 := { stood := { row := blakeWritesRow, standIns := [], harness := (true, "dfbb7370cd753572c851c0f8f2f586e223f725966985cca0c84a628722e25faf"), looks := false }, kinds := [], alts := [], laidByText := true, laidKinds := [.data], laidTests := true, laidLooks := .later }
def BlakeWritesCardSaid : Prop := Claim7.holds Tryd.pinned (.plain (OpenSpec.ofChange blakeWritesSpec)) blakeWritesCard

/-- THE TIED CARD OF 'casketlaw06.BlakeLengths'. -/
def blakeLengthsCard : Claim7 := { stood := { row := blakeLengthsRow, standIns := [], harness := (true, "dfbb7370cd753572c851c0f8f2f586e223f725966985cca0c84a628722e25faf"), looks := false }, kinds := [], alts := [], laidByText := true, laidKinds := [.data], laidTests := true, laidLooks := .later }
def BlakeLengthsCardSaid : Prop := Claim7.holds Tryd.pinned (.plain (OpenSpec.ofChange blakeLengthsSpec)) blakeLengthsCard

/-- THE TIED CARD OF 'casketlaw06.BlakeNobody'. -/
def blakeNobodyCard : Claim7 := { stood := { row := blakeNobodyRow, standIns := [], harness := (true, "dfbb7370cd753572c851c0f8f2f586e223f725966985cca0c84a628722e25faf"), looks := false }, kinds := [], alts := [], laidByText := true, laidKinds := [.data], laidTests := true, laidLooks := .later }
def BlakeNobodyCardSaid : Prop := Claim7.holds Tryd.pinned (.plain (OpenSpec.ofChange blakeNobodySpec)) blakeNobodyCard

/-- THE TIED CARD OF 'casketlaw06.BlakeStates'. -/
def blakeStatesCard : Claim7 := { stood := { row := blakeStatesRow, standIns := [], harness := (true, "dfbb7370cd753572c851c0f8f2f586e223f725966985cca0c84a628722e25faf"), looks := false }, kinds := [], alts := [], laidByText := true, laidKinds := [.data], laidTests := true, laidLooks := .later }
def BlakeStatesCardSaid : Prop := Claim7.holds Tryd.pinned (.plain (OpenSpec.ofChange blakeStatesSpec)) blakeStatesCard

/-- THE SECOND FORM's CARD OF 'casketlaw06.BlakeSums'. -/
def blakeSumsUptoCard : Claim7 := { stood := { row := blakeSumsUptoRow, standIns := [], harness := (true, "dfbb7370cd753572c851c0f8f2f586e223f725966985cca0c84a628722e25faf"), looks := false }, kinds := [], alts := [], laidByText := true, laidKinds := [.data], laidTests := true, laidLooks := .later }
def BlakeSumsUptoCardSaid : Prop := Claim7.holds Tryd.pinned (.plain (OpenSpec.upto blakeSumsSpec)) blakeSumsUptoCard

/-- THE SECOND FORM's CARD OF 'casketlaw06.BlakePieces'. -/
def blakePiecesUptoCard : Claim7 := { stood := { row := blakePiecesUptoRow, standIns := [], harness := (true, "dfbb7370cd753572c851c0f8f2f586e223f725966985cca0c84a628722e25faf"), looks := false }, kinds := [], alts := [], laidByText := true, laidKinds := [.data], laidTests := true, laidLooks := .later }
def BlakePiecesUptoCardSaid : Prop := Claim7.holds Tryd.pinned (.plain (OpenSpec.upto blakePiecesSpec)) blakePiecesUptoCard

/-- THE SECOND FORM's CARD OF 'casketlaw06.BlakeWrites'. -/
def blakeWritesUptoCard : Claim7 := { stood := { row := blakeWritesUptoRow, standIns := [], harness := (true, "dfbb7370cd753572c851c0f8f2f586e223f725966985cca0c84a628722e25faf"), looks := false }, kinds := [], alts := [], laidByText := true, laidKinds := [.data], laidTests := true, laidLooks := .later }
def BlakeWritesUptoCardSaid : Prop := Claim7.holds Tryd.pinned (.plain (OpenSpec.upto blakeWritesSpec)) blakeWritesUptoCard

/-- THE SECOND FORM's CARD OF 'casketlaw06.BlakeLengths'. -/
def blakeLengthsUptoCard : Claim7 := { stood := { row := blakeLengthsUptoRow, standIns := [], harness := (true, "dfbb7370cd753572c851c0f8f2f586e223f725966985cca0c84a628722e25faf"), looks := false }, kinds := [], alts := [], laidByText := true, laidKinds := [.data], laidTests := true, laidLooks := .later }
def BlakeLengthsUptoCardSaid : Prop := Claim7.holds Tryd.pinned (.plain (OpenSpec.upto blakeLengthsSpec)) blakeLengthsUptoCard

/-- THE SECOND FORM's CARD OF 'casketlaw06.BlakeNobody'. -/
def blakeNobodyUptoCard : Claim7 := { stood := { row := blakeNobodyUptoRow, standIns := [], harness := (true, "dfbb7370cd753572c851c0f8f2f586e223f725966985cca0c84a628722e25faf"), looks := false }, kinds := [], alts := [], laidByText := true, laidKinds := [.data], laidTests := true, laidLooks := .later }
def BlakeNobodyUptoCardSaid : Prop := Claim7.holds Tryd.pinned (.plain (OpenSpec.upto blakeNobodySpec)) blakeNobodyUptoCard

/-- THE SECOND FORM's CARD OF 'casketlaw06.BlakeStates'. -/
def blakeStatesUptoCard : Claim7 := { stood := { row := blakeStatesUptoRow, standIns := [], harness := (true, "dfbb7370cd753572c851c0f8f2f586e223f725966985cca0c84a628722e25faf"), looks := false }, kinds := [], alts := [], laidByText := true, laidKinds := [.data], laidTests := true, laidLooks := .later }
def BlakeStatesUptoCardSaid : Prop := Claim7.holds Tryd.pinned (.plain (OpenSpec.upto blakeStatesSpec)) blakeStatesUptoCard
end Rows
end Go.Proofs.YtbnbjhainkjknaaDoor
