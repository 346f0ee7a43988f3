/-
  NARROWER THAN 'FOR EVERY INPUT', by the rows' own cells (each row's printed sentence says how): MixRows: laid · ArgonKeys: laid · ArgonSeeds: laid · ArgonAgain: laid · ArgonCounts: laid.
  DERIVED. THE GIVEN ROWS OF THIS SEAT. 5 by the template 'for every input the law returns true; each argument reads behind the call as it read before'; 0 by the template 'total and deterministic' (their statements: YtfbmeclpcgdmhabDoorTotals.lean).
  GIVEN WITH THE SEED: the statements are not yours to turn. If you find one false, say at which input.
  Laid BY PROGRAM, IN A SANDBOX (cutbox-rows.mjs): the forced cells as the released guide's own fill.sh prints them over the translation c8205eafdb553d0f… (all of the seat's roots in one cut). By AI agents, Wed Nov 11 2026. No macro, syntax, notation, axiom, sorry.
-/
import Derived.Test.YtfbmeclpcgdmhabDoorChecked
import GoSem.Claim
import GoSem.ClaimJoined
import GoSem.ClaimMapViews
import Derived.JoinedTies
import Derived.KernelRfl
namespace Go.Proofs.YtfbmeclpcgdmhabDoor
/- THE CELL 'sum', in the pinned program and in every row, IS THE sha256 OF THE DUMP (.gsa) THAT YtfbmeclpcgdmhabDoorProg.lean LOADS. Nothing in Lean hashes anything: it is a label: what it is worth is what the hold of that sum in a sandbox is worth. -/
noncomputable def Tryd.pinned : Pinned := { name := "ytfbmeclpcgdmhabdoor", sum := "c8205eafdb553d0febe2a7fbbb8a203116527f812b1171d6fff9cccb76a3d2f1", checked := Tryd.checked }
namespace Rows
def none {H : Type} : Left H := { results := [], args := [] }

/- WHAT THE LISTED PACKAGE-LEVEL VARIABLES READ AS WHEN THE CALL BEGINS. Each datum BY PROGRAM (the guide's laid-datum.mjs) off the statement by which the dump's own 'gosem.cut.vars' lays the variable. In a bare row this is a premise. The card (YtfbmeclpcgdmhabDoorCards.lean) ties it to the program's text. -/
def laid_casket_blake_places {H : Type} : DataW H := .agg [.agg [.lit (.int .i64 0), .lit (.int .i64 4), .lit (.int .i64 8), .lit (.int .i64 12)], .agg [.lit (.int .i64 1), .lit (.int .i64 5), .lit (.int .i64 9), .lit (.int .i64 13)], .agg [.lit (.int .i64 2), .lit (.int .i64 6), .lit (.int .i64 10), .lit (.int .i64 14)], .agg [.lit (.int .i64 3), .lit (.int .i64 7), .lit (.int .i64 11), .lit (.int .i64 15)], .agg [.lit (.int .i64 0), .lit (.int .i64 5), .lit (.int .i64 10), .lit (.int .i64 15)], .agg [.lit (.int .i64 1), .lit (.int .i64 6), .lit (.int .i64 11), .lit (.int .i64 12)], .agg [.lit (.int .i64 2), .lit (.int .i64 7), .lit (.int .i64 8), .lit (.int .i64 13)], .agg [.lit (.int .i64 3), .lit (.int .i64 4), .lit (.int .i64 9), .lit (.int .i64 14)]]
def laid_casket_mix_places {H : Type} : DataW H := .agg [.agg [.lit (.int .i64 0), .lit (.int .i64 4), .lit (.int .i64 8), .lit (.int .i64 12)], .agg [.lit (.int .i64 1), .lit (.int .i64 5), .lit (.int .i64 9), .lit (.int .i64 13)], .agg [.lit (.int .i64 2), .lit (.int .i64 6), .lit (.int .i64 10), .lit (.int .i64 14)], .agg [.lit (.int .i64 3), .lit (.int .i64 7), .lit (.int .i64 11), .lit (.int .i64 15)], .agg [.lit (.int .i64 0), .lit (.int .i64 5), .lit (.int .i64 10), .lit (.int .i64 15)], .agg [.lit (.int .i64 1), .lit (.int .i64 6), .lit (.int .i64 11), .lit (.int .i64 12)], .agg [.lit (.int .i64 2), .lit (.int .i64 7), .lit (.int .i64 8), .lit (.int .i64 13)], .agg [.lit (.int .i64 3), .lit (.int .i64 4), .lit (.int .i64 9), .lit (.int .i64 14)]]

/-- 'casketlaw07.MixRows': WHATEVER THE INPUT: true; the input reads as it did. -/
def mixRowsSpec : ChangeSpec := { name := "mixRows", fn := fun _ => fun
  | [d] => { results := [.lit (.bool true)], args := [d] }
  | _ => none }
def mixRowsRow : OpenClaim := { program := "ytfbmeclpcgdmhabdoor", sum := "c8205eafdb553d0febe2a7fbbb8a203116527f812b1171d6fff9cccb76a3d2f1", func := "casket/casketlaw07.MixRows", spec := "mixRows", unfollowed := true, recurses := true, named := ["casket/mix.places", "casket/blake.places"], apart := false, laid := [("casket/blake.places", laid_casket_blake_places), ("casket/mix.places", laid_casket_mix_places)] }
def MixRowsSaid : Prop := mixRowsRow.holds Tryd.pinned (OpenSpec.ofChange mixRowsSpec)

/-- ITS FALSE NEIGHBOUR: 'it returns false'. Refute it at one input. -/
def mixRowsWrong : ChangeSpec := { name := "mixRows", fn := fun _ => fun
  | [d] => { results := [.lit (.bool false)], args := [d] }
  | _ => none }
def MixRowsWrongFalsely : Prop := mixRowsRow.holds Tryd.pinned (OpenSpec.ofChange mixRowsWrong)

/-- 'casketlaw08.ArgonKeys': WHATEVER THE INPUT: true; the input reads as it did. -/
def argonKeysSpec : ChangeSpec := { name := "argonKeys", fn := fun _ => fun
  | [d1, d2, d3] => { results := [.lit (.bool true)], args := [d1, d2, d3] }
  | _ => none }
def argonKeysRow : OpenClaim := { program := "ytfbmeclpcgdmhabdoor", sum := "c8205eafdb553d0febe2a7fbbb8a203116527f812b1171d6fff9cccb76a3d2f1", func := "casket/casketlaw08.ArgonKeys", spec := "argonKeys", unfollowed := true, recurses := true, named := ["casket/blake.places", "casket/mix.places"], apart := false, laid := [("casket/blake.places", laid_casket_blake_places), ("casket/mix.places", laid_casket_mix_places)] }
def ArgonKeysSaid : Prop := argonKeysRow.holds Tryd.pinned (OpenSpec.ofChange argonKeysSpec)

/-- ITS FALSE NEIGHBOUR: 'it returns false'. Refute it at one input. -/
def argonKeysWrong : ChangeSpec := { name := "argonKeys", fn := fun _ => fun
  | [d1, d2, d3] => { results := [.lit (.bool false)], args := [d1, d2, d3] }
  | _ => none }
def ArgonKeysWrongFalsely : Prop := argonKeysRow.holds Tryd.pinned (OpenSpec.ofChange argonKeysWrong)

/-- 'casketlaw08.ArgonSeeds': WHATEVER THE INPUT: true; the input reads as it did. -/
def argonSeedsSpec : ChangeSpec := { name := "argonSeeds", fn := fun _ => fun
  | [d1, d2, d3] => { results := [.lit (.bool true)], args := [d1, d2, d3] }
  | _ => none }
def argonSeedsRow : OpenClaim := { program := "ytfbmeclpcgdmhabdoor", sum := "c8205eafdb553d0febe2a7fbbb8a203116527f812b1171d6fff9cccb76a3d2f1", func := "casket/casketlaw08.ArgonSeeds", spec := "argonSeeds", unfollowed := true, recurses := true, named := ["casket/blake.places", "casket/mix.places"], apart := false, laid := [("casket/blake.places", laid_casket_blake_places), ("casket/mix.places", laid_casket_mix_places)] }
def ArgonSeedsSaid : Prop := argonSeedsRow.holds Tryd.pinned (OpenSpec.ofChange argonSeedsSpec)

/-- ITS FALSE NEIGHBOUR: 'it returns false'. Refute it at one input. -/
def argonSeedsWrong : ChangeSpec := { name := "argonSeeds", fn := fun _ => fun
  | [d1, d2, d3] => { results := [.lit (.bool false)], args := [d1, d2, d3] }
  | _ => none }
def ArgonSeedsWrongFalsely : Prop := argonSeedsRow.holds Tryd.pinned (OpenSpec.ofChange argonSeedsWrong)

/-- 'casketlaw08.ArgonAgain': WHATEVER THE INPUT: true; the input reads as it did. -/
def argonAgainSpec : ChangeSpec := { name := "argonAgain", fn := fun _ => fun
  | [d1, d2] => { results := [.lit (.bool true)], args := [d1, d2] }
  | _ => none }
def argonAgainRow : OpenClaim := { program := "ytfbmeclpcgdmhabdoor", sum := "c8205eafdb553d0febe2a7fbbb8a203116527f812b1171d6fff9cccb76a3d2f1", func := "casket/casketlaw08.ArgonAgain", spec := "argonAgain", unfollowed := true, recurses := true, named := ["casket/blake.places", "casket/mix.places"], apart := false, laid := [("casket/blake.places", laid_casket_blake_places), ("casket/mix.places", laid_casket_mix_places)] }
def ArgonAgainSaid : Prop := argonAgainRow.holds Tryd.pinned (OpenSpec.ofChange argonAgainSpec)

/-- ITS FALSE NEIGHBOUR: 'it returns false'. Refute it at one input. -/
def argonAgainWrong : ChangeSpec := { name := "argonAgain", fn := fun _ => fun
  | [d1, d2] => { results := [.lit (.bool false)], args := [d1, d2] }
  | _ => none }
def ArgonAgainWrongFalsely : Prop := argonAgainRow.holds Tryd.pinned (OpenSpec.ofChange argonAgainWrong)

/-- 'casketlaw08.ArgonCounts': WHATEVER THE INPUT: true; the input reads as it did. -/
def argonCountsSpec : ChangeSpec := { name := "argonCounts", fn := fun _ => fun
  | [d1, d2, d3] => { results := [.lit (.bool true)], args := [d1, d2, d3] }
  | _ => none }
def argonCountsRow : OpenClaim := { program := "ytfbmeclpcgdmhabdoor", sum := "c8205eafdb553d0febe2a7fbbb8a203116527f812b1171d6fff9cccb76a3d2f1", func := "casket/casketlaw08.ArgonCounts", spec := "argonCounts", unfollowed := true, recurses := true, named := ["casket/blake.places", "casket/mix.places"], apart := false, laid := [("casket/blake.places", laid_casket_blake_places), ("casket/mix.places", laid_casket_mix_places)] }
def ArgonCountsSaid : Prop := argonCountsRow.holds Tryd.pinned (OpenSpec.ofChange argonCountsSpec)

/-- ITS FALSE NEIGHBOUR: 'it returns false'. Refute it at one input. -/
def argonCountsWrong : ChangeSpec := { name := "argonCounts", fn := fun _ => fun
  | [d1, d2, d3] => { results := [.lit (.bool false)], args := [d1, d2, d3] }
  | _ => none }
def ArgonCountsWrongFalsely : Prop := argonCountsRow.holds Tryd.pinned (OpenSpec.ofChange argonCountsWrong)

/- THE SECOND FORM. 'bulk': how many values and letters a reading holds, each counted each time it is reached (what is shared counts as often as it is met; a slice's spare places count too). A statement '..UptoSaid' is the law's where the arguments, and the package variables that the reading takes, are together of bulk at most 1048576: NARROWER than '..Said'. Prove '..Said' where nothing that the law and all that it calls make is longer than what came in: it says more and counts as full. Else prove '..UptoSaid'. A law counts once. -/
mutual
def uptoBulk {H : Type} : DataW H → Nat
  | .lit (.string bytes) => bytes.length + 1
  | .lit _ => 1
  | .nil => 1
  | .ptr d => uptoBulk d + 1
  | .slice elems spare => uptoBulkAll elems + uptoBulkAll spare + 1
  | .agg parts => uptoBulkAll parts + 1
  | .iface _ d => uptoBulk d + 1
  | .map entries => uptoBulkEntries entries + 1
  | .held _ => 1
def uptoBulkAll {H : Type} : List (DataW H) → Nat
  | [] => 0
  | d :: r => uptoBulk d + uptoBulkAll r
def uptoBulkEntries {H : Type} : List (Lit × DataW H) → Nat
  | [] => 0
  | x :: r => uptoBulkEntry x + uptoBulkEntries r
def uptoBulkEntry {H : Type} : Lit × DataW H → Nat
  | (.string bytes, d) => bytes.length + uptoBulk d + 1
  | (_, d) => uptoBulk d + 1
 end
def uptoSmall : (H : Type) → List (DataW H) → Bool := fun _ ds => decide (uptoBulkAll ds ≤ 1048576)
def OpenSpec.upto (s : _root_.Go.ChangeSpec) : _root_.Go.OpenSpec := { _root_.Go.OpenSpec.ofChange s with cond := some uptoSmall }

/-- 'casketlaw07.MixRows', WHERE WHAT IT READS IS OF BULK AT MOST 1048576: true; the input reads as it did. -/
def mixRowsUptoRow : OpenClaim := { program := "ytfbmeclpcgdmhabdoor", sum := "c8205eafdb553d0febe2a7fbbb8a203116527f812b1171d6fff9cccb76a3d2f1", func := "casket/casketlaw07.MixRows", spec := "mixRows", unfollowed := true, recurses := true, named := ["casket/mix.places", "casket/blake.places"], apart := false, laid := [("casket/blake.places", laid_casket_blake_places), ("casket/mix.places", laid_casket_mix_places)], narrowed := true }
def MixRowsUptoSaid : Prop := mixRowsUptoRow.holds Tryd.pinned (OpenSpec.upto mixRowsSpec)

/-- 'casketlaw08.ArgonKeys', WHERE WHAT IT READS IS OF BULK AT MOST 1048576: true; the input reads as it did. -/
def argonKeysUptoRow : OpenClaim := { program := "ytfbmeclpcgdmhabdoor", sum := "c8205eafdb553d0febe2a7fbbb8a203116527f812b1171d6fff9cccb76a3d2f1", func := "casket/casketlaw08.ArgonKeys", spec := "argonKeys", unfollowed := true, recurses := true, named := ["casket/blake.places", "casket/mix.places"], apart := false, laid := [("casket/blake.places", laid_casket_blake_places), ("casket/mix.places", laid_casket_mix_places)], narrowed := true }
def ArgonKeysUptoSaid : Prop := argonKeysUptoRow.holds Tryd.pinned (OpenSpec.upto argonKeysSpec)

/-- 'casketlaw08.ArgonSeeds', WHERE WHAT IT READS IS OF BULK AT MOST 1048576: true; the input reads as it did. -/
def argonSeedsUptoRow : OpenClaim := { program := "ytfbmeclpcgdmhabdoor", sum := "c8205eafdb553d0febe2a7fbbb8a203116527f812b1171d6fff9cccb76a3d2f1", func := "casket/casketlaw08.ArgonSeeds", spec := "argonSeeds", unfollowed := true, recurses := true, named := ["casket/blake.places", "casket/mix.places"], apart := false, laid := [("casket/blake.places", laid_casket_blake_places), ("casket/mix.places", laid_casket_mix_places)], narrowed := true }
def ArgonSeedsUptoSaid : Prop := argonSeedsUptoRow.holds Tryd.pinned (OpenSpec.upto argonSeedsSpec)

/-- 'casketlaw08.ArgonAgain', WHERE WHAT IT READS IS OF BULK AT MOST 1048576: true; the input reads as it did. -/
def argonAgainUptoRow : OpenClaim := { program := "ytfbmeclpcgdmhabdoor", sum := "c8205eafdb553d0febe2a7fbbb8a203116527f812b1171d6fff9cccb76a3d2f1", func := "casket/casketlaw08.ArgonAgain", spec := "argonAgain", unfollowed := true, recurses := true, named := ["casket/blake.places", "casket/mix.places"], apart := false, laid := [("casket/blake.places", laid_casket_blake_places), ("casket/mix.places", laid_casket_mix_places)], narrowed := true }
def ArgonAgainUptoSaid : Prop := argonAgainUptoRow.holds Tryd.pinned (OpenSpec.upto argonAgainSpec)

/-- 'casketlaw08.ArgonCounts', WHERE WHAT IT READS IS OF BULK AT MOST 1048576: true; the input reads as it did. -/
def argonCountsUptoRow : OpenClaim := { program := "ytfbmeclpcgdmhabdoor", sum := "c8205eafdb553d0febe2a7fbbb8a203116527f812b1171d6fff9cccb76a3d2f1", func := "casket/casketlaw08.ArgonCounts", spec := "argonCounts", unfollowed := true, recurses := true, named := ["casket/blake.places", "casket/mix.places"], apart := false, laid := [("casket/blake.places", laid_casket_blake_places), ("casket/mix.places", laid_casket_mix_places)], narrowed := true }
def ArgonCountsUptoSaid : Prop := argonCountsUptoRow.holds Tryd.pinned (OpenSpec.upto argonCountsSpec)

end Rows
end Go.Proofs.YtfbmeclpcgdmhabDoor
