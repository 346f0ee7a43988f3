/-
  DERIVED. GIVEN WITH THE SEED: THE CARDS: each row of YtfbmeclpcgdmhabDoorRows.lean that lists a variable, with what it lists TIED to the program's text (the seventh form; the later family's looks); each row that meets fmt, with fmt's text TOLD by the authors' own Lean function (tested against real Go, not proved from fmt's source: count such statements apart). THE CARD IS WHAT COUNTS. Prove the row's statement (the work); the ties are given (YtfbmeclpcgdmhabDoorTie.lean); close each card by the builder's one call (the guide's Derived/Test/ToyasCard.lean, 'card_holds'). Laid BY PROGRAM, IN A SANDBOX (cutbox-door.mjs). By AI agents, Wed Nov 11 2026. No macro, syntax, notation, axiom, sorry.
-/
import Derived.Test.YtfbmeclpcgdmhabDoorRows
import GoSem.ClaimSeven
namespace Go.Proofs.YtfbmeclpcgdmhabDoor
namespace Rows

/-- THE TIED CARD OF 'casketlaw07.MixRows'. -/
def mixRowsCard : Claim7 := { stood := { row := mixRowsRow, standIns := [], harness := (true, "f89bd41997652cff61be80ffd1c90d020e54f6951f7ffaa2b2753d9a700aa679"), looks := false }, kinds := [], alts := [], laidByText := true, laidKinds := [.data, .data], laidTests := true, laidLooks := .later }
def MixRowsCardSaid : Prop := Claim7.holds Tryd.pinned (.plain (OpenSpec.ofChange mixRowsSpec)) mixRowsCard

/-- THE TIED CARD OF 'casketlaw08.ArgonKeys'. -/
def argonKeysCard : Claim7 := { stood := { row := argonKeysRow, standIns := [], harness := (true, "f89bd41997652cff61be80ffd1c90d020e54f6951f7ffaa2b2753d9a700aa679"), looks := false }, kinds := [], alts := [], laidByText := true, laidKinds := [.data, .data], laidTests := true, laidLooks := .later }
def ArgonKeysCardSaid : Prop := Claim7.holds Tryd.pinned (.plain (OpenSpec.ofChange argonKeysSpec)) argonKeysCard

/-- THE TIED CARD OF 'casketlaw08.ArgonSeeds'. -/
def argonSeedsCard : Claim7 := { stood := { row := argonSeedsRow, standIns := [], harness := (true, "f89bd41997652cff61be80ffd1c90d020e54f6951f7ffaa2b2753d9a700aa679"), looks := false }, kinds := [], alts := [], laidByText := true, laidKinds := [.data, .data], laidTests := true, laidLooks := .later }
def ArgonSeedsCardSaid : Prop := Claim7.holds Tryd.pinned (.plain (OpenSpec.ofChange argonSeedsSpec)) argonSeedsCard

/-- THE TIED CARD OF 'casketlaw08.ArgonAgain'. -/
def argonAgainCard : Claim7 := { stood := { row := argonAgainRow, standIns := [], harness := (true, "f89bd41997652cff61be80ffd1c90d020e54f6951f7ffaa2b2753d9a700aa679"), looks := false }, kinds := [], alts := [], laidByText := true, laidKinds := [.data, .data], laidTests := true, laidLooks := .later }
def ArgonAgainCardSaid : Prop := Claim7.holds Tryd.pinned (.plain (OpenSpec.ofChange argonAgainSpec)) argonAgainCard

/-- THE TIED CARD OF 'casketlaw08.ArgonCounts'. -/
def argonCountsCard : Claim7 := { stood := { row := argonCountsRow, standIns := [], harness := (true, "f89bd41997652cff61be80ffd1c90d020e54f6951f7ffaa2b2753d9a700aa679"), looks := false }, kinds := [], alts := [], laidByText := true, laidKinds := [.data, .data], laidTests := true, laidLooks := .later }
def ArgonCountsCardSaid : Prop := Claim7.holds Tryd.pinned (.plain (OpenSpec.ofChange argonCountsSpec)) argonCountsCard

/-- THE SECOND FORM's CARD OF 'casketlaw07.MixRows'. -/
def mixRowsUptoCard : Claim7 := { stood := { row := mixRowsUptoRow, standIns := [], harness := (true, "f89bd41997652cff61be80ffd1c90d020e54f6951f7ffaa2b2753d9a700aa679"), looks := false }, kinds := [], alts := [], laidByText := true, laidKinds := [.data, .data], laidTests := true, laidLooks := .later }
def MixRowsUptoCardSaid : Prop := Claim7.holds Tryd.pinned (.plain (OpenSpec.upto mixRowsSpec)) mixRowsUptoCard

/-- THE SECOND FORM's CARD OF 'casketlaw08.ArgonKeys'. -/
def argonKeysUptoCard : Claim7 := { stood := { row := argonKeysUptoRow, standIns := [], harness := (true, "f89bd41997652cff61be80ffd1c90d020e54f6951f7ffaa2b2753d9a700aa679"), looks := false }, kinds := [], alts := [], laidByText := true, laidKinds := [.data, .data], laidTests := true, laidLooks := .later }
def ArgonKeysUptoCardSaid : Prop := Claim7.holds Tryd.pinned (.plain (OpenSpec.upto argonKeysSpec)) argonKeysUptoCard

/-- THE SECOND FORM's CARD OF 'casketlaw08.ArgonSeeds'. -/
def argonSeedsUptoCard : Claim7 := { stood := { row := argonSeedsUptoRow, standIns := [], harness := (true, "f89bd41997652cff61be80ffd1c90d020e54f6951f7ffaa2b2753d9a700aa679"), looks := false }, kinds := [], alts := [], laidByText := true, laidKinds := [.data, .data], laidTests := true, laidLooks := .later }
def ArgonSeedsUptoCardSaid : Prop := Claim7.holds Tryd.pinned (.plain (OpenSpec.upto argonSeedsSpec)) argonSeedsUptoCard

/-- THE SECOND FORM's CARD OF 'casketlaw08.ArgonAgain'. -/
def argonAgainUptoCard : Claim7 := { stood := { row := argonAgainUptoRow, standIns := [], harness := (true, "f89bd41997652cff61be80ffd1c90d020e54f6951f7ffaa2b2753d9a700aa679"), looks := false }, kinds := [], alts := [], laidByText := true, laidKinds := [.data, .data], laidTests := true, laidLooks := .later }
def ArgonAgainUptoCardSaid : Prop := Claim7.holds Tryd.pinned (.plain (OpenSpec.upto argonAgainSpec)) argonAgainUptoCard

/-- THE SECOND FORM's CARD OF 'casketlaw08.ArgonCounts'. -/
def argonCountsUptoCard : Claim7 := { stood := { row := argonCountsUptoRow, standIns := [], harness := (true, "f89bd41997652cff61be80ffd1c90d020e54f6951f7ffaa2b2753d9a700aa679"), looks := false }, kinds := [], alts := [], laidByText := true, laidKinds := [.data, .data], laidTests := true, laidLooks := .later }
def ArgonCountsUptoCardSaid : Prop := Claim7.holds Tryd.pinned (.plain (OpenSpec.upto argonCountsSpec)) argonCountsUptoCard
end Rows
end Go.Proofs.YtfbmeclpcgdmhabDoor
