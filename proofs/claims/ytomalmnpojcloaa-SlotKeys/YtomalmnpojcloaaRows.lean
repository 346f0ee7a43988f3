/-
  No cell of these rows narrows 'for every input' (looked for: loops, veiled, ifaces, maps, wideKeys, modest, calm, conditions, laid).
  DERIVED. THE GIVEN ROWS OF THIS SEAT. 5 by the template 'for every input the law returns true; each argument reads behind the call as it read before'; 0 by the template 'total and deterministic' (their statements: YtomalmnpojcloaaTotals.lean).
  GIVEN WITH THE SEED: the statements are not yours to turn. If you find one false, say at which input.
  Laid BY PROGRAM, IN A SANDBOX (cutbox-rows.mjs): the forced cells as the released guide's own fill.sh prints them over the translation c34f32febb3b9679… (all of the seat's roots in one cut). By AI agents, Wed Nov 11 2026. No macro, syntax, notation, axiom, sorry.
-/
import Derived.Test.YtomalmnpojcloaaChecked
import GoSem.Claim
import GoSem.ClaimJoined
import GoSem.ClaimMapViews
import Derived.JoinedTies
import Derived.KernelRfl
namespace Go.Proofs.Ytomalmnpojcloaa
/- THE CELL 'sum', in the pinned program and in every row, IS THE sha256 OF THE DUMP (.gsa) THAT YtomalmnpojcloaaProg.lean LOADS. Nothing in Lean hashes anything: it is a label: what it is worth is what the hold of that sum in a sandbox is worth. -/
noncomputable def Try.pinned : Pinned := { name := "ytomalmnpojcloaa", sum := "c34f32febb3b96798a0b93fe098d1ba211c60db21069e6f208bcb62bd472e02d", checked := Try.checked }
namespace Rows
def none {H : Type} : Left H := { results := [], args := [] }

/-- 'casketlaw12.SlotEncodes': WHATEVER THE INPUT: true; the input reads as it did. -/
def slotEncodesSpec : ChangeSpec := { name := "slotEncodes", fn := fun _ => fun
  | [d] => { results := [.lit (.bool true)], args := [d] }
  | _ => none }
def slotEncodesRow : OpenClaim := { program := "ytomalmnpojcloaa", sum := "c34f32febb3b96798a0b93fe098d1ba211c60db21069e6f208bcb62bd472e02d", func := "casket/casketlaw12.SlotEncodes", spec := "slotEncodes", unfollowed := true, recurses := true, apart := false }
def SlotEncodesSaid : Prop := slotEncodesRow.holds Try.pinned (OpenSpec.ofChange slotEncodesSpec)

/-- ITS FALSE NEIGHBOUR: 'it returns false'. Refute it at one input. -/
def slotEncodesWrong : ChangeSpec := { name := "slotEncodes", fn := fun _ => fun
  | [d] => { results := [.lit (.bool false)], args := [d] }
  | _ => none }
def SlotEncodesWrongFalsely : Prop := slotEncodesRow.holds Try.pinned (OpenSpec.ofChange slotEncodesWrong)

/-- 'casketlaw12.SlotDecodes': WHATEVER THE INPUT: true; the input reads as it did. -/
def slotDecodesSpec : ChangeSpec := { name := "slotDecodes", fn := fun _ => fun
  | [d] => { results := [.lit (.bool true)], args := [d] }
  | _ => none }
def slotDecodesRow : OpenClaim := { program := "ytomalmnpojcloaa", sum := "c34f32febb3b96798a0b93fe098d1ba211c60db21069e6f208bcb62bd472e02d", func := "casket/casketlaw12.SlotDecodes", spec := "slotDecodes", unfollowed := true, recurses := true, apart := false }
def SlotDecodesSaid : Prop := slotDecodesRow.holds Try.pinned (OpenSpec.ofChange slotDecodesSpec)

/-- ITS FALSE NEIGHBOUR: 'it returns false'. Refute it at one input. -/
def slotDecodesWrong : ChangeSpec := { name := "slotDecodes", fn := fun _ => fun
  | [d] => { results := [.lit (.bool false)], args := [d] }
  | _ => none }
def SlotDecodesWrongFalsely : Prop := slotDecodesRow.holds Try.pinned (OpenSpec.ofChange slotDecodesWrong)

/-- 'casketlaw12.SlotKeys': WHATEVER THE INPUT: true; the input reads as it did. -/
def slotKeysSpec : ChangeSpec := { name := "slotKeys", fn := fun _ => fun
  | [d] => { results := [.lit (.bool true)], args := [d] }
  | _ => none }
def slotKeysRow : OpenClaim := { program := "ytomalmnpojcloaa", sum := "c34f32febb3b96798a0b93fe098d1ba211c60db21069e6f208bcb62bd472e02d", func := "casket/casketlaw12.SlotKeys", spec := "slotKeys", unfollowed := true, recurses := true, apart := false }
def SlotKeysSaid : Prop := slotKeysRow.holds Try.pinned (OpenSpec.ofChange slotKeysSpec)

/-- ITS FALSE NEIGHBOUR: 'it returns false'. Refute it at one input. -/
def slotKeysWrong : ChangeSpec := { name := "slotKeys", fn := fun _ => fun
  | [d] => { results := [.lit (.bool false)], args := [d] }
  | _ => none }
def SlotKeysWrongFalsely : Prop := slotKeysRow.holds Try.pinned (OpenSpec.ofChange slotKeysWrong)

/-- 'casketlaw12.SlotReads': WHATEVER THE INPUT: true; the input reads as it did. -/
def slotReadsSpec : ChangeSpec := { name := "slotReads", fn := fun _ => fun
  | [d] => { results := [.lit (.bool true)], args := [d] }
  | _ => none }
def slotReadsRow : OpenClaim := { program := "ytomalmnpojcloaa", sum := "c34f32febb3b96798a0b93fe098d1ba211c60db21069e6f208bcb62bd472e02d", func := "casket/casketlaw12.SlotReads", spec := "slotReads", unfollowed := true, recurses := true, apart := false }
def SlotReadsSaid : Prop := slotReadsRow.holds Try.pinned (OpenSpec.ofChange slotReadsSpec)

/-- ITS FALSE NEIGHBOUR: 'it returns false'. Refute it at one input. -/
def slotReadsWrong : ChangeSpec := { name := "slotReads", fn := fun _ => fun
  | [d] => { results := [.lit (.bool false)], args := [d] }
  | _ => none }
def SlotReadsWrongFalsely : Prop := slotReadsRow.holds Try.pinned (OpenSpec.ofChange slotReadsWrong)

/-- 'casketlaw12.SlotApart': WHATEVER THE INPUT: true; the input reads as it did. -/
def slotApartSpec : ChangeSpec := { name := "slotApart", fn := fun _ => fun
  | [d1, d2, d3] => { results := [.lit (.bool true)], args := [d1, d2, d3] }
  | _ => none }
def slotApartRow : OpenClaim := { program := "ytomalmnpojcloaa", sum := "c34f32febb3b96798a0b93fe098d1ba211c60db21069e6f208bcb62bd472e02d", func := "casket/casketlaw12.SlotApart", spec := "slotApart", unfollowed := true, recurses := true, apart := false }
def SlotApartSaid : Prop := slotApartRow.holds Try.pinned (OpenSpec.ofChange slotApartSpec)

/-- ITS FALSE NEIGHBOUR: 'it returns false'. Refute it at one input. -/
def slotApartWrong : ChangeSpec := { name := "slotApart", fn := fun _ => fun
  | [d1, d2, d3] => { results := [.lit (.bool false)], args := [d1, d2, d3] }
  | _ => none }
def SlotApartWrongFalsely : Prop := slotApartRow.holds Try.pinned (OpenSpec.ofChange slotApartWrong)

/- THE SECOND FORM. 'bulk': how many values and letters a reading holds, each counted each time it is reached (what is shared counts as often as it is met; a slice's spare places count too). A statement '..UptoSaid' is the law's where the arguments, and the package variables that the reading takes, are together of bulk at most 1048576: NARROWER than '..Said'. Prove '..Said' where nothing that the law and all that it calls make is longer than what came in: it says more and counts as full. Else prove '..UptoSaid'. A law counts once. -/
mutual
def uptoBulk {H : Type} : DataW H → Nat
  | .lit (.string bytes) => bytes.length + 1
  | .lit _ => 1
  | .nil => 1
  | .ptr d => uptoBulk d + 1
  | .slice elems spare => uptoBulkAll elems + uptoBulkAll spare + 1
  | .agg parts => uptoBulkAll parts + 1
  | .iface _ d => uptoBulk d + 1
  | .map entries => uptoBulkEntries entries + 1
  | .held _ => 1
def uptoBulkAll {H : Type} : List (DataW H) → Nat
  | [] => 0
  | d :: r => uptoBulk d + uptoBulkAll r
def uptoBulkEntries {H : Type} : List (Lit × DataW H) → Nat
  | [] => 0
  | x :: r => uptoBulkEntry x + uptoBulkEntries r
def uptoBulkEntry {H : Type} : Lit × DataW H → Nat
  | (.string bytes, d) => bytes.length + uptoBulk d + 1
  | (_, d) => uptoBulk d + 1
 end
def uptoSmall : (H : Type) → List (DataW H) → Bool := fun _ ds => decide (uptoBulkAll ds ≤ 1048576)
def OpenSpec.upto (s : _root_.Go.ChangeSpec) : _root_.Go.OpenSpec := { _root_.Go.OpenSpec.ofChange s with cond := some uptoSmall }

/-- 'casketlaw12.SlotEncodes', WHERE WHAT IT READS IS OF BULK AT MOST 1048576: true; the input reads as it did. -/
def slotEncodesUptoRow : OpenClaim := { program := "ytomalmnpojcloaa", sum := "c34f32febb3b96798a0b93fe098d1ba211c60db21069e6f208bcb62bd472e02d", func := "casket/casketlaw12.SlotEncodes", spec := "slotEncodes", unfollowed := true, recurses := true, apart := false, narrowed := true }
def SlotEncodesUptoSaid : Prop := slotEncodesUptoRow.holds Try.pinned (OpenSpec.upto slotEncodesSpec)

/-- 'casketlaw12.SlotDecodes', WHERE WHAT IT READS IS OF BULK AT MOST 1048576: true; the input reads as it did. -/
def slotDecodesUptoRow : OpenClaim := { program := "ytomalmnpojcloaa", sum := "c34f32febb3b96798a0b93fe098d1ba211c60db21069e6f208bcb62bd472e02d", func := "casket/casketlaw12.SlotDecodes", spec := "slotDecodes", unfollowed := true, recurses := true, apart := false, narrowed := true }
def SlotDecodesUptoSaid : Prop := slotDecodesUptoRow.holds Try.pinned (OpenSpec.upto slotDecodesSpec)

/-- 'casketlaw12.SlotKeys', WHERE WHAT IT READS IS OF BULK AT MOST 1048576: true; the input reads as it did. -/
def slotKeysUptoRow : OpenClaim := { program := "ytomalmnpojcloaa", sum := "c34f32febb3b96798a0b93fe098d1ba211c60db21069e6f208bcb62bd472e02d", func := "casket/casketlaw12.SlotKeys", spec := "slotKeys", unfollowed := true, recurses := true, apart := false, narrowed := true }
def SlotKeysUptoSaid : Prop := slotKeysUptoRow.holds Try.pinned (OpenSpec.upto slotKeysSpec)

/-- 'casketlaw12.SlotReads', WHERE WHAT IT READS IS OF BULK AT MOST 1048576: true; the input reads as it did. -/
def slotReadsUptoRow : OpenClaim := { program := "ytomalmnpojcloaa", sum := "c34f32febb3b96798a0b93fe098d1ba211c60db21069e6f208bcb62bd472e02d", func := "casket/casketlaw12.SlotReads", spec := "slotReads", unfollowed := true, recurses := true, apart := false, narrowed := true }
def SlotReadsUptoSaid : Prop := slotReadsUptoRow.holds Try.pinned (OpenSpec.upto slotReadsSpec)

/-- 'casketlaw12.SlotApart', WHERE WHAT IT READS IS OF BULK AT MOST 1048576: true; the input reads as it did. -/
def slotApartUptoRow : OpenClaim := { program := "ytomalmnpojcloaa", sum := "c34f32febb3b96798a0b93fe098d1ba211c60db21069e6f208bcb62bd472e02d", func := "casket/casketlaw12.SlotApart", spec := "slotApart", unfollowed := true, recurses := true, apart := false, narrowed := true }
def SlotApartUptoSaid : Prop := slotApartUptoRow.holds Try.pinned (OpenSpec.upto slotApartSpec)

end Rows
end Go.Proofs.Ytomalmnpojcloaa
