/-
  DERIVED. GIVEN WITH THE SEED: THE CARDS: each row of YtfbmeclpcgdmhaaDoorRows.lean that lists a variable, with what it lists TIED to the program's text (the seventh form; the later family's looks); each row that meets fmt, with fmt's text TOLD by the authors' own Lean function (tested against real Go, not proved from fmt's source: count such statements apart). THE CARD IS WHAT COUNTS. Prove the row's statement (the work); the ties are given (YtfbmeclpcgdmhaaDoorTie.lean); close each card by the builder's one call (the guide's Derived/Test/ToyasCard.lean, 'card_holds'). Laid BY PROGRAM, IN A SANDBOX (cutbox-door.mjs). By AI agents, Wed Nov 11 2026. No macro, syntax, notation, axiom, sorry.
-/
import Derived.Test.YtfbmeclpcgdmhaaDoorRows
import GoSem.ClaimSeven
namespace Go.Proofs.YtfbmeclpcgdmhaaDoor
namespace Rows

/-- THE TIED CARD OF 'casketlaw07.MixLong'. -/
def mixLongCard : Claim7 := { stood := { row := mixLongRow, standIns := [], harness := (true, "12c3e1038123d641887b5009828186e0033861d36039f979290f83e08595473a"), looks := false }, kinds := [], alts := [], laidByText := true, laidKinds := [.data], laidTests := true, laidLooks := .later }
def MixLongCardSaid : Prop := Claim7.holds Tryd.pinned (.plain (OpenSpec.ofChange mixLongSpec)) mixLongCard

/-- THE TIED CARD OF 'casketlaw07.MixPages'. -/
def mixPagesCard : Claim7 := { stood := { row := mixPagesRow, standIns := [], harness := (true, "12c3e1038123d641887b5009828186e0033861d36039f979290f83e08595473a"), looks := false }, kinds := [], alts := [], laidByText := true, laidKinds := [.data, .data], laidTests := true, laidLooks := .later }
def MixPagesCardSaid : Prop := Claim7.holds Tryd.pinned (.plain (OpenSpec.ofChange mixPagesSpec)) mixPagesCard

/-- THE TIED CARD OF 'casketlaw07.MixWhich'. -/
def mixWhichCard : Claim7 := { stood := { row := mixWhichRow, standIns := [], harness := (true, "12c3e1038123d641887b5009828186e0033861d36039f979290f83e08595473a"), looks := false }, kinds := [], alts := [], laidByText := true, laidKinds := [.data], laidTests := true, laidLooks := .later }
def MixWhichCardSaid : Prop := Claim7.holds Tryd.pinned (.plain (OpenSpec.ofChange mixWhichSpec)) mixWhichCard

/-- THE TIED CARD OF 'casketlaw07.MixBytes'. -/
def mixBytesCard : Claim7 := { stood := { row := mixBytesRow, standIns := [], harness := (true, "12c3e1038123d641887b5009828186e0033861d36039f979290f83e08595473a"), looks := false }, kinds := [], alts := [], laidByText := true, laidKinds := [.data], laidTests := true, laidLooks := .later }
def MixBytesCardSaid : Prop := Claim7.holds Tryd.pinned (.plain (OpenSpec.ofChange mixBytesSpec)) mixBytesCard

/-- THE TIED CARD OF 'casketlaw07.MixRising'. -/
def mixRisingCard : Claim7 := { stood := { row := mixRisingRow, standIns := [], harness := (true, "12c3e1038123d641887b5009828186e0033861d36039f979290f83e08595473a"), looks := false }, kinds := [], alts := [], laidByText := true, laidKinds := [.data], laidTests := true, laidLooks := .later }
def MixRisingCardSaid : Prop := Claim7.holds Tryd.pinned (.plain (OpenSpec.ofChange mixRisingSpec)) mixRisingCard

/-- THE TIED CARD OF 'casketlaw07.MixShort'. -/
def mixShortCard : Claim7 := { stood := { row := mixShortRow, standIns := [], harness := (true, "12c3e1038123d641887b5009828186e0033861d36039f979290f83e08595473a"), looks := false }, kinds := [], alts := [], laidByText := true, laidKinds := [.data], laidTests := true, laidLooks := .later }
def MixShortCardSaid : Prop := Claim7.holds Tryd.pinned (.plain (OpenSpec.ofChange mixShortSpec)) mixShortCard

/-- THE SECOND FORM's CARD OF 'casketlaw07.MixLong'. -/
def mixLongUptoCard : Claim7 := { stood := { row := mixLongUptoRow, standIns := [], harness := (true, "12c3e1038123d641887b5009828186e0033861d36039f979290f83e08595473a"), looks := false }, kinds := [], alts := [], laidByText := true, laidKinds := [.data], laidTests := true, laidLooks := .later }
def MixLongUptoCardSaid : Prop := Claim7.holds Tryd.pinned (.plain (OpenSpec.upto mixLongSpec)) mixLongUptoCard

/-- THE SECOND FORM's CARD OF 'casketlaw07.MixPages'. -/
def mixPagesUptoCard : Claim7 := { stood := { row := mixPagesUptoRow, standIns := [], harness := (true, "12c3e1038123d641887b5009828186e0033861d36039f979290f83e08595473a"), looks := false }, kinds := [], alts := [], laidByText := true, laidKinds := [.data, .data], laidTests := true, laidLooks := .later }
def MixPagesUptoCardSaid : Prop := Claim7.holds Tryd.pinned (.plain (OpenSpec.upto mixPagesSpec)) mixPagesUptoCard

/-- THE SECOND FORM's CARD OF 'casketlaw07.MixWhich'. -/
def mixWhichUptoCard : Claim7 := { stood := { row := mixWhichUptoRow, standIns := [], harness := (true, "12c3e1038123d641887b5009828186e0033861d36039f979290f83e08595473a"), looks := false }, kinds := [], alts := [], laidByText := true, laidKinds := [.data], laidTests := true, laidLooks := .later }
def MixWhichUptoCardSaid : Prop := Claim7.holds Tryd.pinned (.plain (OpenSpec.upto mixWhichSpec)) mixWhichUptoCard

/-- THE SECOND FORM's CARD OF 'casketlaw07.MixBytes'. -/
def mixBytesUptoCard : Claim7 := { stood := { row := mixBytesUptoRow, standIns := [], harness := (true, "12c3e1038123d641887b5009828186e0033861d36039f979290f83e08595473a"), looks := false }, kinds := [], alts := [], laidByText := true, laidKinds := [.data], laidTests := true, laidLooks := .later }
def MixBytesUptoCardSaid : Prop := Claim7.holds Tryd.pinned (.plain (OpenSpec.upto mixBytesSpec)) mixBytesUptoCard

/-- THE SECOND FORM's CARD OF 'casketlaw07.MixRising'. -/
def mixRisingUptoCard : Claim7 := { stood := { row := mixRisingUptoRow, standIns := [], harness := (true, "12c3e1038123d641887b5009828186e0033861d36039f979290f83e08595473a"), looks := false }, kinds := [], alts := [], laidByText := true, laidKinds := [.data], laidTests := true, laidLooks := .later }
def MixRisingUptoCardSaid : Prop := Claim7.holds Tryd.pinned (.plain (OpenSpec.upto mixRisingSpec)) mixRisingUptoCard

/-- THE SECOND FORM's CARD OF 'casketlaw07.MixShort'. -/
def mixShortUptoCard : Claim7 := { stood := { row := mixShortUptoRow, standIns := [], harness := (true, "12c3e1038123d641887b5009828186e0033861d36039f979290f83e08595473a"), looks := false }, kinds := [], alts := [], laidByText := true, laidKinds := [.data], laidTests := true, laidLooks := .later }
def MixShortUptoCardSaid : Prop := Claim7.holds Tryd.pinned (.plain (OpenSpec.upto mixShortSpec)) mixShortUptoCard
end Rows
end Go.Proofs.YtfbmeclpcgdmhaaDoor
