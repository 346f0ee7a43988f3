/-
  NARROWER THAN 'FOR EVERY INPUT', by the rows' own cells (each row's printed sentence says how): MixLong: laid · MixPages: laid · MixWhich: laid · MixBytes: laid · MixRising: laid · MixShort: laid.
  DERIVED. THE GIVEN ROWS OF THIS SEAT. 6 by the template 'for every input the law returns true; each argument reads behind the call as it read before'; 0 by the template 'total and deterministic' (their statements: YtfbmeclpcgdmhaaDoorTotals.lean).
  GIVEN WITH THE SEED: the statements are not yours to turn. If you find one false, say at which input.
  Laid BY PROGRAM, IN A SANDBOX (cutbox-rows.mjs): the forced cells as the released guide's own fill.sh prints them over the translation 60ae6777bedba803… (all of the seat's roots in one cut). By AI agents, Wed Nov 11 2026. No macro, syntax, notation, axiom, sorry.
-/
import Derived.Test.YtfbmeclpcgdmhaaDoorChecked
import GoSem.Claim
import GoSem.ClaimJoined
import GoSem.ClaimMapViews
import Derived.JoinedTies
import Derived.KernelRfl
namespace Go.Proofs.YtfbmeclpcgdmhaaDoor
/- THE CELL 'sum', in the pinned program and in every row, IS THE sha256 OF THE DUMP (.gsa) THAT YtfbmeclpcgdmhaaDoorProg.lean LOADS. Nothing in Lean hashes anything: it is a label: what it is worth is what the hold of that sum in a sandbox is worth. -/
noncomputable def Tryd.pinned : Pinned := { name := "ytfbmeclpcgdmhaadoor", sum := "60ae6777bedba803900124beb84ca33bab646cef61228907e8667c894c4b8430", checked := Tryd.checked }
namespace Rows
def none {H : Type} : Left H := { results := [], args := [] }

/- WHAT THE LISTED PACKAGE-LEVEL VARIABLES READ AS WHEN THE CALL BEGINS. Each datum BY PROGRAM (the guide's laid-datum.mjs) off the statement by which the dump's own 'gosem.cut.vars' lays the variable. In a bare row this is a premise. The card (YtfbmeclpcgdmhaaDoorCards.lean) ties it to the program's text. -/
def laid_casket_blake_places {H : Type} : DataW H := .agg [.agg [.lit (.int .i64 0), .lit (.int .i64 4), .lit (.int .i64 8), .lit (.int .i64 12)], .agg [.lit (.int .i64 1), .lit (.int .i64 5), .lit (.int .i64 9), .lit (.int .i64 13)], .agg [.lit (.int .i64 2), .lit (.int .i64 6), .lit (.int .i64 10), .lit (.int .i64 14)], .agg [.lit (.int .i64 3), .lit (.int .i64 7), .lit (.int .i64 11), .lit (.int .i64 15)], .agg [.lit (.int .i64 0), .lit (.int .i64 5), .lit (.int .i64 10), .lit (.int .i64 15)], .agg [.lit (.int .i64 1), .lit (.int .i64 6), .lit (.int .i64 11), .lit (.int .i64 12)], .agg [.lit (.int .i64 2), .lit (.int .i64 7), .lit (.int .i64 8), .lit (.int .i64 13)], .agg [.lit (.int .i64 3), .lit (.int .i64 4), .lit (.int .i64 9), .lit (.int .i64 14)]]
def laid_casket_mix_places {H : Type} : DataW H := .agg [.agg [.lit (.int .i64 0), .lit (.int .i64 4), .lit (.int .i64 8), .lit (.int .i64 12)], .agg [.lit (.int .i64 1), .lit (.int .i64 5), .lit (.int .i64 9), .lit (.int .i64 13)], .agg [.lit (.int .i64 2), .lit (.int .i64 6), .lit (.int .i64 10), .lit (.int .i64 14)], .agg [.lit (.int .i64 3), .lit (.int .i64 7), .lit (.int .i64 11), .lit (.int .i64 15)], .agg [.lit (.int .i64 0), .lit (.int .i64 5), .lit (.int .i64 10), .lit (.int .i64 15)], .agg [.lit (.int .i64 1), .lit (.int .i64 6), .lit (.int .i64 11), .lit (.int .i64 12)], .agg [.lit (.int .i64 2), .lit (.int .i64 7), .lit (.int .i64 8), .lit (.int .i64 13)], .agg [.lit (.int .i64 3), .lit (.int .i64 4), .lit (.int .i64 9), .lit (.int .i64 14)]]

/-- 'casketlaw07.MixLong': WHATEVER THE INPUT: true; the input reads as it did. -/
def mixLongSpec : ChangeSpec := { name := "mixLong", fn := fun _ => fun
  | [d1, d2, d3] => { results := [.lit (.bool true)], args := [d1, d2, d3] }
  | _ => none }
def mixLongRow : OpenClaim := { program := "ytfbmeclpcgdmhaadoor", sum := "60ae6777bedba803900124beb84ca33bab646cef61228907e8667c894c4b8430", func := "casket/casketlaw07.MixLong", spec := "mixLong", named := ["casket/blake.places"], apart := false, laid := [("casket/blake.places", laid_casket_blake_places)] }
def MixLongSaid : Prop := mixLongRow.holds Tryd.pinned (OpenSpec.ofChange mixLongSpec)

/-- ITS FALSE NEIGHBOUR: 'it returns false'. Refute it at one input. -/
def mixLongWrong : ChangeSpec := { name := "mixLong", fn := fun _ => fun
  | [d1, d2, d3] => { results := [.lit (.bool false)], args := [d1, d2, d3] }
  | _ => none }
def MixLongWrongFalsely : Prop := mixLongRow.holds Tryd.pinned (OpenSpec.ofChange mixLongWrong)

/-- 'casketlaw07.MixPages': WHATEVER THE INPUT: true; the input reads as it did. -/
def mixPagesSpec : ChangeSpec := { name := "mixPages", fn := fun _ => fun
  | [d1, d2, d3] => { results := [.lit (.bool true)], args := [d1, d2, d3] }
  | _ => none }
def mixPagesRow : OpenClaim := { program := "ytfbmeclpcgdmhaadoor", sum := "60ae6777bedba803900124beb84ca33bab646cef61228907e8667c894c4b8430", func := "casket/casketlaw07.MixPages", spec := "mixPages", unfollowed := true, recurses := true, named := ["casket/mix.places", "casket/blake.places"], apart := false, laid := [("casket/blake.places", laid_casket_blake_places), ("casket/mix.places", laid_casket_mix_places)] }
def MixPagesSaid : Prop := mixPagesRow.holds Tryd.pinned (OpenSpec.ofChange mixPagesSpec)

/-- ITS FALSE NEIGHBOUR: 'it returns false'. Refute it at one input. -/
def mixPagesWrong : ChangeSpec := { name := "mixPages", fn := fun _ => fun
  | [d1, d2, d3] => { results := [.lit (.bool false)], args := [d1, d2, d3] }
  | _ => none }
def MixPagesWrongFalsely : Prop := mixPagesRow.holds Tryd.pinned (OpenSpec.ofChange mixPagesWrong)

/-- 'casketlaw07.MixWhich': WHATEVER THE INPUT: true; the input reads as it did. -/
def mixWhichSpec : ChangeSpec := { name := "mixWhich", fn := fun _ => fun
  | [d1, d2] => { results := [.lit (.bool true)], args := [d1, d2] }
  | _ => none }
def mixWhichRow : OpenClaim := { program := "ytfbmeclpcgdmhaadoor", sum := "60ae6777bedba803900124beb84ca33bab646cef61228907e8667c894c4b8430", func := "casket/casketlaw07.MixWhich", spec := "mixWhich", named := ["casket/blake.places"], apart := false, laid := [("casket/blake.places", laid_casket_blake_places)] }
def MixWhichSaid : Prop := mixWhichRow.holds Tryd.pinned (OpenSpec.ofChange mixWhichSpec)

/-- ITS FALSE NEIGHBOUR: 'it returns false'. Refute it at one input. -/
def mixWhichWrong : ChangeSpec := { name := "mixWhich", fn := fun _ => fun
  | [d1, d2] => { results := [.lit (.bool false)], args := [d1, d2] }
  | _ => none }
def MixWhichWrongFalsely : Prop := mixWhichRow.holds Tryd.pinned (OpenSpec.ofChange mixWhichWrong)

/-- 'casketlaw07.MixBytes': WHATEVER THE INPUT: true; the input reads as it did. -/
def mixBytesSpec : ChangeSpec := { name := "mixBytes", fn := fun _ => fun
  | [d1, d2] => { results := [.lit (.bool true)], args := [d1, d2] }
  | _ => none }
def mixBytesRow : OpenClaim := { program := "ytfbmeclpcgdmhaadoor", sum := "60ae6777bedba803900124beb84ca33bab646cef61228907e8667c894c4b8430", func := "casket/casketlaw07.MixBytes", spec := "mixBytes", named := ["casket/blake.places"], apart := false, laid := [("casket/blake.places", laid_casket_blake_places)] }
def MixBytesSaid : Prop := mixBytesRow.holds Tryd.pinned (OpenSpec.ofChange mixBytesSpec)

/-- ITS FALSE NEIGHBOUR: 'it returns false'. Refute it at one input. -/
def mixBytesWrong : ChangeSpec := { name := "mixBytes", fn := fun _ => fun
  | [d1, d2] => { results := [.lit (.bool false)], args := [d1, d2] }
  | _ => none }
def MixBytesWrongFalsely : Prop := mixBytesRow.holds Tryd.pinned (OpenSpec.ofChange mixBytesWrong)

/-- 'casketlaw07.MixRising': WHATEVER THE INPUT: true; the input reads as it did. -/
def mixRisingSpec : ChangeSpec := { name := "mixRising", fn := fun _ => fun
  | [d1, d2, d3] => { results := [.lit (.bool true)], args := [d1, d2, d3] }
  | _ => none }
def mixRisingRow : OpenClaim := { program := "ytfbmeclpcgdmhaadoor", sum := "60ae6777bedba803900124beb84ca33bab646cef61228907e8667c894c4b8430", func := "casket/casketlaw07.MixRising", spec := "mixRising", named := ["casket/blake.places"], apart := false, laid := [("casket/blake.places", laid_casket_blake_places)] }
def MixRisingSaid : Prop := mixRisingRow.holds Tryd.pinned (OpenSpec.ofChange mixRisingSpec)

/-- ITS FALSE NEIGHBOUR: 'it returns false'. Refute it at one input. -/
def mixRisingWrong : ChangeSpec := { name := "mixRising", fn := fun _ => fun
  | [d1, d2, d3] => { results := [.lit (.bool false)], args := [d1, d2, d3] }
  | _ => none }
def MixRisingWrongFalsely : Prop := mixRisingRow.holds Tryd.pinned (OpenSpec.ofChange mixRisingWrong)

/-- 'casketlaw07.MixShort': WHATEVER THE INPUT: true; the input reads as it did. -/
def mixShortSpec : ChangeSpec := { name := "mixShort", fn := fun _ => fun
  | [d1, d2] => { results := [.lit (.bool true)], args := [d1, d2] }
  | _ => none }
def mixShortRow : OpenClaim := { program := "ytfbmeclpcgdmhaadoor", sum := "60ae6777bedba803900124beb84ca33bab646cef61228907e8667c894c4b8430", func := "casket/casketlaw07.MixShort", spec := "mixShort", named := ["casket/blake.places"], apart := false, laid := [("casket/blake.places", laid_casket_blake_places)] }
def MixShortSaid : Prop := mixShortRow.holds Tryd.pinned (OpenSpec.ofChange mixShortSpec)

/-- ITS FALSE NEIGHBOUR: 'it returns false'. Refute it at one input. -/
def mixShortWrong : ChangeSpec := { name := "mixShort", fn := fun _ => fun
  | [d1, d2] => { results := [.lit (.bool false)], args := [d1, d2] }
  | _ => none }
def MixShortWrongFalsely : Prop := mixShortRow.holds Tryd.pinned (OpenSpec.ofChange mixShortWrong)

/- THE SECOND FORM. 'bulk': how many values and letters a reading holds, each counted each time it is reached (what is shared counts as often as it is met; a slice's spare places count too). A statement '..UptoSaid' is the law's where the arguments, and the package variables that the reading takes, are together of bulk at most 1048576: NARROWER than '..Said'. Prove '..Said' where nothing that the law and all that it calls make is longer than what came in: it says more and counts as full. Else prove '..UptoSaid'. A law counts once. -/
mutual
def uptoBulk {H : Type} : DataW H → Nat
  | .lit (.string bytes) => bytes.length + 1
  | .lit _ => 1
  | .nil => 1
  | .ptr d => uptoBulk d + 1
  | .slice elems spare => uptoBulkAll elems + uptoBulkAll spare + 1
  | .agg parts => uptoBulkAll parts + 1
  | .iface _ d => uptoBulk d + 1
  | .map entries => uptoBulkEntries entries + 1
  | .held _ => 1
def uptoBulkAll {H : Type} : List (DataW H) → Nat
  | [] => 0
  | d :: r => uptoBulk d + uptoBulkAll r
def uptoBulkEntries {H : Type} : List (Lit × DataW H) → Nat
  | [] => 0
  | x :: r => uptoBulkEntry x + uptoBulkEntries r
def uptoBulkEntry {H : Type} : Lit × DataW H → Nat
  | (.string bytes, d) => bytes.length + uptoBulk d + 1
  | (_, d) => uptoBulk d + 1
 end
def uptoSmall : (H : Type) → List (DataW H) → Bool := fun _ ds => decide (uptoBulkAll ds ≤ 1048576)
def OpenSpec.upto (s : _root_.Go.ChangeSpec) : _root_.Go.OpenSpec := { _root_.Go.OpenSpec.ofChange s with cond := some uptoSmall }

/-- 'casketlaw07.MixLong', WHERE WHAT IT READS IS OF BULK AT MOST 1048576: true; the input reads as it did. -/
def mixLongUptoRow : OpenClaim := { program := "ytfbmeclpcgdmhaadoor", sum := "60ae6777bedba803900124beb84ca33bab646cef61228907e8667c894c4b8430", func := "casket/casketlaw07.MixLong", spec := "mixLong", named := ["casket/blake.places"], apart := false, laid := [("casket/blake.places", laid_casket_blake_places)], narrowed := true }
def MixLongUptoSaid : Prop := mixLongUptoRow.holds Tryd.pinned (OpenSpec.upto mixLongSpec)

/-- 'casketlaw07.MixPages', WHERE WHAT IT READS IS OF BULK AT MOST 1048576: true; the input reads as it did. -/
def mixPagesUptoRow : OpenClaim := { program := "ytfbmeclpcgdmhaadoor", sum := "60ae6777bedba803900124beb84ca33bab646cef61228907e8667c894c4b8430", func := "casket/casketlaw07.MixPages", spec := "mixPages", unfollowed := true, recurses := true, named := ["casket/mix.places", "casket/blake.places"], apart := false, laid := [("casket/blake.places", laid_casket_blake_places), ("casket/mix.places", laid_casket_mix_places)], narrowed := true }
def MixPagesUptoSaid : Prop := mixPagesUptoRow.holds Tryd.pinned (OpenSpec.upto mixPagesSpec)

/-- 'casketlaw07.MixWhich', WHERE WHAT IT READS IS OF BULK AT MOST 1048576: true; the input reads as it did. -/
def mixWhichUptoRow : OpenClaim := { program := "ytfbmeclpcgdmhaadoor", sum := "60ae6777bedba803900124beb84ca33bab646cef61228907e8667c894c4b8430", func := "casket/casketlaw07.MixWhich", spec := "mixWhich", named := ["casket/blake.places"], apart := false, laid := [("casket/blake.places", laid_casket_blake_places)], narrowed := true }
def MixWhichUptoSaid : Prop := mixWhichUptoRow.holds Tryd.pinned (OpenSpec.upto mixWhichSpec)

/-- 'casketlaw07.MixBytes', WHERE WHAT IT READS IS OF BULK AT MOST 1048576: true; the input reads as it did. -/
def mixBytesUptoRow : OpenClaim := { program := "ytfbmeclpcgdmhaadoor", sum := "60ae6777bedba803900124beb84ca33bab646cef61228907e8667c894c4b8430", func := "casket/casketlaw07.MixBytes", spec := "mixBytes", named := ["casket/blake.places"], apart := false, laid := [("casket/blake.places", laid_casket_blake_places)], narrowed := true }
def MixBytesUptoSaid : Prop := mixBytesUptoRow.holds Tryd.pinned (OpenSpec.upto mixBytesSpec)

/-- 'casketlaw07.MixRising', WHERE WHAT IT READS IS OF BULK AT MOST 1048576: true; the input reads as it did. -/
def mixRisingUptoRow : OpenClaim := { program := "ytfbmeclpcgdmhaadoor", sum := "60ae6777bedba803900124beb84ca33bab646cef61228907e8667c894c4b8430", func := "casket/casketlaw07.MixRising", spec := "mixRising", named := ["casket/blake.places"], apart := false, laid := [("casket/blake.places", laid_casket_blake_places)], narrowed := true }
def MixRisingUptoSaid : Prop := mixRisingUptoRow.holds Tryd.pinned (OpenSpec.upto mixRisingSpec)

/-- 'casketlaw07.MixShort', WHERE WHAT IT READS IS OF BULK AT MOST 1048576: true; the input reads as it did. -/
def mixShortUptoRow : OpenClaim := { program := "ytfbmeclpcgdmhaadoor", sum := "60ae6777bedba803900124beb84ca33bab646cef61228907e8667c894c4b8430", func := "casket/casketlaw07.MixShort", spec := "mixShort", named := ["casket/blake.places"], apart := false, laid := [("casket/blake.places", laid_casket_blake_places)], narrowed := true }
def MixShortUptoSaid : Prop := mixShortUptoRow.holds Tryd.pinned (OpenSpec.upto mixShortSpec)

end Rows
end Go.Proofs.YtfbmeclpcgdmhaaDoor
