/-
  NARROWER THAN 'FOR EVERY INPUT', by the rows' own cells (each row's printed sentence says how): BlakeSums: laid · BlakePieces: laid · BlakeWrites: laid · BlakeLengths: laid · BlakeNobody: laid · BlakeStates: laid.
  DERIVED. THE GIVEN ROWS OF THIS SEAT. 6 by the template 'for every input the law returns true; each argument reads behind the call as it read before'; 0 by the template 'total and deterministic' (their statements: YtbnbjhainkjknaaDoorTotals.lean).
  GIVEN WITH THE SEED: the statements are not yours to turn. If you find one false, say at which input.
  Laid BY PROGRAM, IN A SANDBOX (cutbox-rows.mjs): the forced cells as the released guide's own fill.sh prints them over the translation b1d6972c37ebbf63… (all of the seat's roots in one cut). By AI agents, Wed Nov 11 2026. No macro, syntax, notation, axiom, sorry.
-/
import Derived.Test.YtbnbjhainkjknaaDoorChecked
import GoSem.Claim
import GoSem.ClaimJoined
import GoSem.ClaimMapViews
import Derived.JoinedTies
import Derived.KernelRfl
namespace Go.Proofs.YtbnbjhainkjknaaDoor
/- THE CELL 'sum', in the pinned program and in every row, IS THE sha256 OF THE DUMP (.gsa) THAT YtbnbjhainkjknaaDoorProg.lean LOADS. Nothing in Lean hashes anything: it is a label: what it is worth is what the hold of that sum in a sandbox is worth. -/
noncomputable def Tryd.pinned : Pinned := { name := "ytbnbjhainkjknaadoor", sum := "b1d6972c37ebbf635f9c359b2c1a0b4bdaf2629c4aef98e196f352fd53c8fb0e", checked := Tryd.checked }
namespace Rows
def none {H : Type} : Left H := { results := [], args := [] }

/- WHAT THE LISTED PACKAGE-LEVEL VARIABLES READ AS WHEN THE CALL BEGINS. Each datum BY PROGRAM (the guide's laid-datum.mjs) off the statement by which the dump's own 'gosem.cut.vars' lays the variable. In a bare row this is a premise. The card (YtbnbjhainkjknaaDoorCards.lean) ties it to the program's text. -/
def laid_casket_blake_places {H : Type} : DataW H := .agg [.agg [.lit (.int .i64 0), .lit (.int .i64 4), .lit (.int .i64 8), .lit (.int .i64 12)], .agg [.lit (.int .i64 1), .lit (.int .i64 5), .lit (.int .i64 9), .lit (.int .i64 13)], .agg [.lit (.int .i64 2), .lit (.int .i64 6), .lit (.int .i64 10), .lit (.int .i64 14)], .agg [.lit (.int .i64 3), .lit (.int .i64 7), .lit (.int .i64 11), .lit (.int .i64 15)], .agg [.lit (.int .i64 0), .lit (.int .i64 5), .lit (.int .i64 10), .lit (.int .i64 15)], .agg [.lit (.int .i64 1), .lit (.int .i64 6), .lit (.int .i64 11), .lit (.int .i64 12)], .agg [.lit (.int .i64 2), .lit (.int .i64 7), .lit (.int .i64 8), .lit (.int .i64 13)], .agg [.lit (.int .i64 3), .lit (.int .i64 4), .lit (.int .i64 9), .lit (.int .i64 14)]]

/-- 'casketlaw06.BlakeSums': WHATEVER THE INPUT: true; the input reads as it did. -/
def blakeSumsSpec : ChangeSpec := { name := "blakeSums", fn := fun _ => fun
  | [d1, d2, d3, d4] => { results := [.lit (.bool true)], args := [d1, d2, d3, d4] }
  | _ => none }
def blakeSumsRow : OpenClaim := { program := "ytbnbjhainkjknaadoor", sum := "b1d6972c37ebbf635f9c359b2c1a0b4bdaf2629c4aef98e196f352fd53c8fb0e", func := "casket/casketlaw06.BlakeSums", spec := "blakeSums", named := ["casket/blake.places"], apart := false, laid := [("casket/blake.places", laid_casket_blake_places)] }
def BlakeSumsSaid : Prop := blakeSumsRow.holds Tryd.pinned (OpenSpec.ofChange blakeSumsSpec)

/-- ITS FALSE NEIGHBOUR: 'it returns false'. Refute it at one input. -/
def blakeSumsWrong : ChangeSpec := { name := "blakeSums", fn := fun _ => fun
  | [d1, d2, d3, d4] => { results := [.lit (.bool false)], args := [d1, d2, d3, d4] }
  | _ => none }
def BlakeSumsWrongFalsely : Prop := blakeSumsRow.holds Tryd.pinned (OpenSpec.ofChange blakeSumsWrong)

/-- 'casketlaw06.BlakePieces': WHATEVER THE INPUT: true; the input reads as it did. -/
def blakePiecesSpec : ChangeSpec := { name := "blakePieces", fn := fun _ => fun
  | [d1, d2, d3, d4] => { results := [.lit (.bool true)], args := [d1, d2, d3, d4] }
  | _ => none }
def blakePiecesRow : OpenClaim := { program := "ytbnbjhainkjknaadoor", sum := "b1d6972c37ebbf635f9c359b2c1a0b4bdaf2629c4aef98e196f352fd53c8fb0e", func := "casket/casketlaw06.BlakePieces", spec := "blakePieces", named := ["casket/blake.places"], apart := false, laid := [("casket/blake.places", laid_casket_blake_places)] }
def BlakePiecesSaid : Prop := blakePiecesRow.holds Tryd.pinned (OpenSpec.ofChange blakePiecesSpec)

/-- ITS FALSE NEIGHBOUR: 'it returns false'. Refute it at one input. -/
def blakePiecesWrong : ChangeSpec := { name := "blakePieces", fn := fun _ => fun
  | [d1, d2, d3, d4] => { results := [.lit (.bool false)], args := [d1, d2, d3, d4] }
  | _ => none }
def BlakePiecesWrongFalsely : Prop := blakePiecesRow.holds Tryd.pinned (OpenSpec.ofChange blakePiecesWrong)

/-- 'casketlaw06.BlakeWrites': WHATEVER THE INPUT: true; the input reads as it did. -/
def blakeWritesSpec : ChangeSpec := { name := "blakeWrites", fn := fun _ => fun
  | [d1, d2, d3] => { results := [.lit (.bool true)], args := [d1, d2, d3] }
  | _ => none }
def blakeWritesRow : OpenClaim := { program := "ytbnbjhainkjknaadoor", sum := "b1d6972c37ebbf635f9c359b2c1a0b4bdaf2629c4aef98e196f352fd53c8fb0e", func := "casket/casketlaw06.BlakeWrites", spec := "blakeWrites", named := ["casket/blake.places"], apart := false, laid := [("casket/blake.places", laid_casket_blake_places)] }
def BlakeWritesSaid : Prop := blakeWritesRow.holds Tryd.pinned (OpenSpec.ofChange blakeWritesSpec)

/-- ITS FALSE NEIGHBOUR: 'it returns false'. Refute it at one input. -/
def blakeWritesWrong : ChangeSpec := { name := "blakeWrites", fn := fun _ => fun
  | [d1, d2, d3] => { results := [.lit (.bool false)], args := [d1, d2, d3] }
  | _ => none }
def BlakeWritesWrongFalsely : Prop := blakeWritesRow.holds Tryd.pinned (OpenSpec.ofChange blakeWritesWrong)

/-- 'casketlaw06.BlakeLengths': WHATEVER THE INPUT: true; the input reads as it did. -/
def blakeLengthsSpec : ChangeSpec := { name := "blakeLengths", fn := fun _ => fun
  | [d1, d2] => { results := [.lit (.bool true)], args := [d1, d2] }
  | _ => none }
def blakeLengthsRow : OpenClaim := { program := "ytbnbjhainkjknaadoor", sum := "b1d6972c37ebbf635f9c359b2c1a0b4bdaf2629c4aef98e196f352fd53c8fb0e", func := "casket/casketlaw06.BlakeLengths", spec := "blakeLengths", named := ["casket/blake.places"], apart := false, laid := [("casket/blake.places", laid_casket_blake_places)] }
def BlakeLengthsSaid : Prop := blakeLengthsRow.holds Tryd.pinned (OpenSpec.ofChange blakeLengthsSpec)

/-- ITS FALSE NEIGHBOUR: 'it returns false'. Refute it at one input. -/
def blakeLengthsWrong : ChangeSpec := { name := "blakeLengths", fn := fun _ => fun
  | [d1, d2] => { results := [.lit (.bool false)], args := [d1, d2] }
  | _ => none }
def BlakeLengthsWrongFalsely : Prop := blakeLengthsRow.holds Tryd.pinned (OpenSpec.ofChange blakeLengthsWrong)

/-- 'casketlaw06.BlakeNobody': WHATEVER THE INPUT: true; the input reads as it did. -/
def blakeNobodySpec : ChangeSpec := { name := "blakeNobody", fn := fun _ => fun
  | [d] => { results := [.lit (.bool true)], args := [d] }
  | _ => none }
def blakeNobodyRow : OpenClaim := { program := "ytbnbjhainkjknaadoor", sum := "b1d6972c37ebbf635f9c359b2c1a0b4bdaf2629c4aef98e196f352fd53c8fb0e", func := "casket/casketlaw06.BlakeNobody", spec := "blakeNobody", named := ["casket/blake.places"], apart := false, laid := [("casket/blake.places", laid_casket_blake_places)] }
def BlakeNobodySaid : Prop := blakeNobodyRow.holds Tryd.pinned (OpenSpec.ofChange blakeNobodySpec)

/-- ITS FALSE NEIGHBOUR: 'it returns false'. Refute it at one input. -/
def blakeNobodyWrong : ChangeSpec := { name := "blakeNobody", fn := fun _ => fun
  | [d] => { results := [.lit (.bool false)], args := [d] }
  | _ => none }
def BlakeNobodyWrongFalsely : Prop := blakeNobodyRow.holds Tryd.pinned (OpenSpec.ofChange blakeNobodyWrong)

/-- 'casketlaw06.BlakeStates': WHATEVER THE INPUT: true; the input reads as it did. -/
def blakeStatesSpec : ChangeSpec := { name := "blakeStates", fn := fun _ => fun
  | [d1, d2] => { results := [.lit (.bool true)], args := [d1, d2] }
  | _ => none }
def blakeStatesRow : OpenClaim := { program := "ytbnbjhainkjknaadoor", sum := "b1d6972c37ebbf635f9c359b2c1a0b4bdaf2629c4aef98e196f352fd53c8fb0e", func := "casket/casketlaw06.BlakeStates", spec := "blakeStates", named := ["casket/blake.places"], apart := false, laid := [("casket/blake.places", laid_casket_blake_places)] }
def BlakeStatesSaid : Prop := blakeStatesRow.holds Tryd.pinned (OpenSpec.ofChange blakeStatesSpec)

/-- ITS FALSE NEIGHBOUR: 'it returns false'. Refute it at one input. -/
def blakeStatesWrong : ChangeSpec := { name := "blakeStates", fn := fun _ => fun
  | [d1, d2] => { results := [.lit (.bool false)], args := [d1, d2] }
  | _ => none }
def BlakeStatesWrongFalsely : Prop := blakeStatesRow.holds Tryd.pinned (OpenSpec.ofChange blakeStatesWrong)

/- THE SECOND FORM. 'bulk': how many values and letters a reading holds, each counted each time it is reached (what is shared counts as often as it is met; a slice's spare places count too). A statement '..UptoSaid' is the law's where the arguments, and the package variables that the reading takes, are together of bulk at most 1048576: NARROWER than '..Said'. Prove '..Said' where nothing that the law and all that it calls make is longer than what came in: it says more and counts as full. Else prove '..UptoSaid'. A law counts once. -/
mutual
def uptoBulk {H : Type} : DataW H → Nat
  | .lit (.string bytes) => bytes.length + 1
  | .lit _ => 1
  | .nil => 1
  | .ptr d => uptoBulk d + 1
  | .slice elems spare => uptoBulkAll elems + uptoBulkAll spare + 1
  | .agg parts => uptoBulkAll parts + 1
  | .iface _ d => uptoBulk d + 1
  | .map entries => uptoBulkEntries entries + 1
  | .held _ => 1
def uptoBulkAll {H : Type} : List (DataW H) → Nat
  | [] => 0
  | d :: r => uptoBulk d + uptoBulkAll r
def uptoBulkEntries {H : Type} : List (Lit × DataW H) → Nat
  | [] => 0
  | x :: r => uptoBulkEntry x + uptoBulkEntries r
def uptoBulkEntry {H : Type} : Lit × DataW H → Nat
  | (.string bytes, d) => bytes.length + uptoBulk d + 1
  | (_, d) => uptoBulk d + 1
 end
def uptoSmall : (H : Type) → List (DataW H) → Bool := fun _ ds => decide (uptoBulkAll ds ≤ 1048576)
def OpenSpec.upto (s : _root_.Go.ChangeSpec) : _root_.Go.OpenSpec := { _root_.Go.OpenSpec.ofChange s with cond := some uptoSmall }

/-- 'casketlaw06.BlakeSums', WHERE WHAT IT READS IS OF BULK AT MOST 1048576: true; the input reads as it did. -/
def blakeSumsUptoRow : OpenClaim := { program := "ytbnbjhainkjknaadoor", sum := "b1d6972c37ebbf635f9c359b2c1a0b4bdaf2629c4aef98e196f352fd53c8fb0e", func := "casket/casketlaw06.BlakeSums", spec := "blakeSums", named := ["casket/blake.places"], apart := false, laid := [("casket/blake.places", laid_casket_blake_places)], narrowed := true }
def BlakeSumsUptoSaid : Prop := blakeSumsUptoRow.holds Tryd.pinned (OpenSpec.upto blakeSumsSpec)

/-- 'casketlaw06.BlakePieces', WHERE WHAT IT READS IS OF BULK AT MOST 1048576: true; the input reads as it did. -/
def blakePiecesUptoRow : OpenClaim := { program := "ytbnbjhainkjknaadoor", sum := "b1d6972c37ebbf635f9c359b2c1a0b4bdaf2629c4aef98e196f352fd53c8fb0e", func := "casket/casketlaw06.BlakePieces", spec := "blakePieces", named := ["casket/blake.places"], apart := false, laid := [("casket/blake.places", laid_casket_blake_places)], narrowed := true }
def BlakePiecesUptoSaid : Prop := blakePiecesUptoRow.holds Tryd.pinned (OpenSpec.upto blakePiecesSpec)

/-- 'casketlaw06.BlakeWrites', WHERE WHAT IT READS IS OF BULK AT MOST 1048576: true; the input reads as it did. -/
def blakeWritesUptoRow : OpenClaim := { program := "ytbnbjhainkjknaadoor", sum := "b1d6972c37ebbf635f9c359b2c1a0b4bdaf2629c4aef98e196f352fd53c8fb0e", func := "casket/casketlaw06.BlakeWrites", spec := "blakeWrites", named := ["casket/blake.places"], apart := false, laid := [("casket/blake.places", laid_casket_blake_places)], narrowed := true }
def BlakeWritesUptoSaid : Prop := blakeWritesUptoRow.holds Tryd.pinned (OpenSpec.upto blakeWritesSpec)

/-- 'casketlaw06.BlakeLengths', WHERE WHAT IT READS IS OF BULK AT MOST 1048576: true; the input reads as it did. -/
def blakeLengthsUptoRow : OpenClaim := { program := "ytbnbjhainkjknaadoor", sum := "b1d6972c37ebbf635f9c359b2c1a0b4bdaf2629c4aef98e196f352fd53c8fb0e", func := "casket/casketlaw06.BlakeLengths", spec := "blakeLengths", named := ["casket/blake.places"], apart := false, laid := [("casket/blake.places", laid_casket_blake_places)], narrowed := true }
def BlakeLengthsUptoSaid : Prop := blakeLengthsUptoRow.holds Tryd.pinned (OpenSpec.upto blakeLengthsSpec)

/-- 'casketlaw06.BlakeNobody', WHERE WHAT IT READS IS OF BULK AT MOST 1048576: true; the input reads as it did. -/
def blakeNobodyUptoRow : OpenClaim := { program := "ytbnbjhainkjknaadoor", sum := "b1d6972c37ebbf635f9c359b2c1a0b4bdaf2629c4aef98e196f352fd53c8fb0e", func := "casket/casketlaw06.BlakeNobody", spec := "blakeNobody", named := ["casket/blake.places"], apart := false, laid := [("casket/blake.places", laid_casket_blake_places)], narrowed := true }
def BlakeNobodyUptoSaid : Prop := blakeNobodyUptoRow.holds Tryd.pinned (OpenSpec.upto blakeNobodySpec)

/-- 'casketlaw06.BlakeStates', WHERE WHAT IT READS IS OF BULK AT MOST 1048576: true; the input reads as it did. -/
def blakeStatesUptoRow : OpenClaim := { program := "ytbnbjhainkjknaadoor", sum := "b1d6972c37ebbf635f9c359b2c1a0b4bdaf2629c4aef98e196f352fd53c8fb0e", func := "casket/casketlaw06.BlakeStates", spec := "blakeStates", named := ["casket/blake.places"], apart := false, laid := [("casket/blake.places", laid_casket_blake_places)], narrowed := true }
def BlakeStatesUptoSaid : Prop := blakeStatesUptoRow.holds Tryd.pinned (OpenSpec.upto blakeStatesSpec)

end Rows
end Go.Proofs.YtbnbjhainkjknaaDoor
