/-
  No cell of these rows narrows 'for every input' (looked for: loops, veiled, ifaces, maps, wideKeys, modest, calm, conditions, laid).
  DERIVED. THE GIVEN ROWS OF THIS SEAT. 6 by the template 'for every input the law returns true; each argument reads behind the call as it read before'; 0 by the template 'total and deterministic' (their statements: YtkoodgfadedeoaaTotals.lean).
  GIVEN WITH THE SEED: the statements are not yours to turn. If you find one false, say at which input.
  Laid BY PROGRAM, IN A SANDBOX (cutbox-rows.mjs): the forced cells as the released guide's own fill.sh prints them over the translation 7bbcaf67928447cf… (all of the seat's roots in one cut). By AI agents, Wed Nov 11 2026. No macro, syntax, notation, axiom, sorry.
-/
import Derived.Test.YtkoodgfadedeoaaChecked
import GoSem.Claim
import GoSem.ClaimJoined
import GoSem.ClaimMapViews
import Derived.JoinedTies
import Derived.KernelRfl
namespace Go.Proofs.Ytkoodgfadedeoaa
/- THE CELL 'sum', in the pinned program and in every row, IS THE sha256 OF THE DUMP (.gsa) THAT YtkoodgfadedeoaaProg.lean LOADS. Nothing in Lean hashes anything: it is a label: what it is worth is what the hold of that sum in a sandbox is worth. -/
noncomputable def Try.pinned : Pinned := { name := "ytkoodgfadedeoaa", sum := "7bbcaf67928447cf0d62abb699e3c9cc70157e52a909cc2fab6b78a60de649ef", checked := Try.checked }
namespace Rows
def none {H : Type} : Left H := { results := [], args := [] }

/-- 'casketlaw02.AesBlocks': WHATEVER THE INPUT: true; the input reads as it did. -/
def aesBlocksSpec : ChangeSpec := { name := "aesBlocks", fn := fun _ => fun
  | [d1, d2] => { results := [.lit (.bool true)], args := [d1, d2] }
  | _ => none }
def aesBlocksRow : OpenClaim := { program := "ytkoodgfadedeoaa", sum := "7bbcaf67928447cf0d62abb699e3c9cc70157e52a909cc2fab6b78a60de649ef", func := "casket/casketlaw02.AesBlocks", spec := "aesBlocks", apart := false }
def AesBlocksSaid : Prop := aesBlocksRow.holds Try.pinned (OpenSpec.ofChange aesBlocksSpec)

/-- ITS FALSE NEIGHBOUR: 'it returns false'. Refute it at one input. -/
def aesBlocksWrong : ChangeSpec := { name := "aesBlocks", fn := fun _ => fun
  | [d1, d2] => { results := [.lit (.bool false)], args := [d1, d2] }
  | _ => none }
def AesBlocksWrongFalsely : Prop := aesBlocksRow.holds Try.pinned (OpenSpec.ofChange aesBlocksWrong)

/-- 'casketlaw02.AesKeys': WHATEVER THE INPUT: true; the input reads as it did. -/
def aesKeysSpec : ChangeSpec := { name := "aesKeys", fn := fun _ => fun
  | [d1, d2] => { results := [.lit (.bool true)], args := [d1, d2] }
  | _ => none }
def aesKeysRow : OpenClaim := { program := "ytkoodgfadedeoaa", sum := "7bbcaf67928447cf0d62abb699e3c9cc70157e52a909cc2fab6b78a60de649ef", func := "casket/casketlaw02.AesKeys", spec := "aesKeys", apart := false }
def AesKeysSaid : Prop := aesKeysRow.holds Try.pinned (OpenSpec.ofChange aesKeysSpec)

/-- ITS FALSE NEIGHBOUR: 'it returns false'. Refute it at one input. -/
def aesKeysWrong : ChangeSpec := { name := "aesKeys", fn := fun _ => fun
  | [d1, d2] => { results := [.lit (.bool false)], args := [d1, d2] }
  | _ => none }
def AesKeysWrongFalsely : Prop := aesKeysRow.holds Try.pinned (OpenSpec.ofChange aesKeysWrong)

/-- 'casketlaw03.XtsUnits': WHATEVER THE INPUT: true; the input reads as it did. -/
def xtsUnitsSpec : ChangeSpec := { name := "xtsUnits", fn := fun _ => fun
  | [d1, d2, d3] => { results := [.lit (.bool true)], args := [d1, d2, d3] }
  | _ => none }
def xtsUnitsRow : OpenClaim := { program := "ytkoodgfadedeoaa", sum := "7bbcaf67928447cf0d62abb699e3c9cc70157e52a909cc2fab6b78a60de649ef", func := "casket/casketlaw03.XtsUnits", spec := "xtsUnits", unfollowed := true, recurses := true, apart := false }
def XtsUnitsSaid : Prop := xtsUnitsRow.holds Try.pinned (OpenSpec.ofChange xtsUnitsSpec)

/-- ITS FALSE NEIGHBOUR: 'it returns false'. Refute it at one input. -/
def xtsUnitsWrong : ChangeSpec := { name := "xtsUnits", fn := fun _ => fun
  | [d1, d2, d3] => { results := [.lit (.bool false)], args := [d1, d2, d3] }
  | _ => none }
def XtsUnitsWrongFalsely : Prop := xtsUnitsRow.holds Try.pinned (OpenSpec.ofChange xtsUnitsWrong)

/-- 'casketlaw03.XtsBack': WHATEVER THE INPUT: true; the input reads as it did. -/
def xtsBackSpec : ChangeSpec := { name := "xtsBack", fn := fun _ => fun
  | [d1, d2, d3, d4] => { results := [.lit (.bool true)], args := [d1, d2, d3, d4] }
  | _ => none }
def xtsBackRow : OpenClaim := { program := "ytkoodgfadedeoaa", sum := "7bbcaf67928447cf0d62abb699e3c9cc70157e52a909cc2fab6b78a60de649ef", func := "casket/casketlaw03.XtsBack", spec := "xtsBack", unfollowed := true, recurses := true, apart := false }
def XtsBackSaid : Prop := xtsBackRow.holds Try.pinned (OpenSpec.ofChange xtsBackSpec)

/-- ITS FALSE NEIGHBOUR: 'it returns false'. Refute it at one input. -/
def xtsBackWrong : ChangeSpec := { name := "xtsBack", fn := fun _ => fun
  | [d1, d2, d3, d4] => { results := [.lit (.bool false)], args := [d1, d2, d3, d4] }
  | _ => none }
def XtsBackWrongFalsely : Prop := xtsBackRow.holds Try.pinned (OpenSpec.ofChange xtsBackWrong)

/-- 'casketlaw03.XtsPlaces': WHATEVER THE INPUT: true; the input reads as it did. -/
def xtsPlacesSpec : ChangeSpec := { name := "xtsPlaces", fn := fun _ => fun
  | [d1, d2, d3, d4, d5] => { results := [.lit (.bool true)], args := [d1, d2, d3, d4, d5] }
  | _ => none }
def xtsPlacesRow : OpenClaim := { program := "ytkoodgfadedeoaa", sum := "7bbcaf67928447cf0d62abb699e3c9cc70157e52a909cc2fab6b78a60de649ef", func := "casket/casketlaw03.XtsPlaces", spec := "xtsPlaces", unfollowed := true, recurses := true, apart := false }
def XtsPlacesSaid : Prop := xtsPlacesRow.holds Try.pinned (OpenSpec.ofChange xtsPlacesSpec)

/-- ITS FALSE NEIGHBOUR: 'it returns false'. Refute it at one input. -/
def xtsPlacesWrong : ChangeSpec := { name := "xtsPlaces", fn := fun _ => fun
  | [d1, d2, d3, d4, d5] => { results := [.lit (.bool false)], args := [d1, d2, d3, d4, d5] }
  | _ => none }
def XtsPlacesWrongFalsely : Prop := xtsPlacesRow.holds Try.pinned (OpenSpec.ofChange xtsPlacesWrong)

/-- 'casketlaw03.XtsTweaks': WHATEVER THE INPUT: true; the input reads as it did. -/
def xtsTweaksSpec : ChangeSpec := { name := "xtsTweaks", fn := fun _ => fun
  | [d1, d2, d3] => { results := [.lit (.bool true)], args := [d1, d2, d3] }
  | _ => none }
def xtsTweaksRow : OpenClaim := { program := "ytkoodgfadedeoaa", sum := "7bbcaf67928447cf0d62abb699e3c9cc70157e52a909cc2fab6b78a60de649ef", func := "casket/casketlaw03.XtsTweaks", spec := "xtsTweaks", unfollowed := true, recurses := true, apart := false }
def XtsTweaksSaid : Prop := xtsTweaksRow.holds Try.pinned (OpenSpec.ofChange xtsTweaksSpec)

/-- ITS FALSE NEIGHBOUR: 'it returns false'. Refute it at one input. -/
def xtsTweaksWrong : ChangeSpec := { name := "xtsTweaks", fn := fun _ => fun
  | [d1, d2, d3] => { results := [.lit (.bool false)], args := [d1, d2, d3] }
  | _ => none }
def XtsTweaksWrongFalsely : Prop := xtsTweaksRow.holds Try.pinned (OpenSpec.ofChange xtsTweaksWrong)

/- THE SECOND FORM. 'bulk': how many values and letters a reading holds, each counted each time it is reached (what is shared counts as often as it is met; a slice's spare places count too). A statement '..UptoSaid' is the law's where the arguments, and the package variables that the reading takes, are together of bulk at most 1048576: NARROWER than '..Said'. Prove '..Said' where nothing that the law and all that it calls make is longer than what came in: it says more and counts as full. Else prove '..UptoSaid'. A law counts once. -/
mutual
def uptoBulk {H : Type} : DataW H → Nat
  | .lit (.string bytes) => bytes.length + 1
  | .lit _ => 1
  | .nil => 1
  | .ptr d => uptoBulk d + 1
  | .slice elems spare => uptoBulkAll elems + uptoBulkAll spare + 1
  | .agg parts => uptoBulkAll parts + 1
  | .iface _ d => uptoBulk d + 1
  | .map entries => uptoBulkEntries entries + 1
  | .held _ => 1
def uptoBulkAll {H : Type} : List (DataW H) → Nat
  | [] => 0
  | d :: r => uptoBulk d + uptoBulkAll r
def uptoBulkEntries {H : Type} : List (Lit × DataW H) → Nat
  | [] => 0
  | x :: r => uptoBulkEntry x + uptoBulkEntries r
def uptoBulkEntry {H : Type} : Lit × DataW H → Nat
  | (.string bytes, d) => bytes.length + uptoBulk d + 1
  | (_, d) => uptoBulk d + 1
 end
def uptoSmall : (H : Type) → List (DataW H) → Bool := fun _ ds => decide (uptoBulkAll ds ≤ 1048576)
def OpenSpec.upto (s : _root_.Go.ChangeSpec) : _root_.Go.OpenSpec := { _root_.Go.OpenSpec.ofChange s with cond := some uptoSmall }

/-- 'casketlaw02.AesBlocks', WHERE WHAT IT READS IS OF BULK AT MOST 1048576: true; the input reads as it did. -/
def aesBlocksUptoRow : OpenClaim := { program := "ytkoodgfadedeoaa", sum := "7bbcaf67928447cf0d62abb699e3c9cc70157e52a909cc2fab6b78a60de649ef", func := "casket/casketlaw02.AesBlocks", spec := "aesBlocks", apart := false, narrowed := true }
def AesBlocksUptoSaid : Prop := aesBlocksUptoRow.holds Try.pinned (OpenSpec.upto aesBlocksSpec)

/-- 'casketlaw02.AesKeys', WHERE WHAT IT READS IS OF BULK AT MOST 1048576: true; the input reads as it did. -/
def aesKeysUptoRow : OpenClaim := { program := "ytkoodgfadedeoaa", sum := "7bbcaf67928447cf0d62abb699e3c9cc70157e52a909cc2fab6b78a60de649ef", func := "casket/casketlaw02.AesKeys", spec := "aesKeys", apart := false, narrowed := true }
def AesKeysUptoSaid : Prop := aesKeysUptoRow.holds Try.pinned (OpenSpec.upto aesKeysSpec)

/-- 'casketlaw03.XtsUnits', WHERE WHAT IT READS IS OF BULK AT MOST 1048576: true; the input reads as it did. -/
def xtsUnitsUptoRow : OpenClaim := { program := "ytkoodgfadedeoaa", sum := "7bbcaf67928447cf0d62abb699e3c9cc70157e52a909cc2fab6b78a60de649ef", func := "casket/casketlaw03.XtsUnits", spec := "xtsUnits", unfollowed := true, recurses := true, apart := false, narrowed := true }
def XtsUnitsUptoSaid : Prop := xtsUnitsUptoRow.holds Try.pinned (OpenSpec.upto xtsUnitsSpec)

/-- 'casketlaw03.XtsBack', WHERE WHAT IT READS IS OF BULK AT MOST 1048576: true; the input reads as it did. -/
def xtsBackUptoRow : OpenClaim := { program := "ytkoodgfadedeoaa", sum := "7bbcaf67928447cf0d62abb699e3c9cc70157e52a909cc2fab6b78a60de649ef", func := "casket/casketlaw03.XtsBack", spec := "xtsBack", unfollowed := true, recurses := true, apart := false, narrowed := true }
def XtsBackUptoSaid : Prop := xtsBackUptoRow.holds Try.pinned (OpenSpec.upto xtsBackSpec)

/-- 'casketlaw03.XtsPlaces', WHERE WHAT IT READS IS OF BULK AT MOST 1048576: true; the input reads as it did. -/
def xtsPlacesUptoRow : OpenClaim := { program := "ytkoodgfadedeoaa", sum := "7bbcaf67928447cf0d62abb699e3c9cc70157e52a909cc2fab6b78a60de649ef", func := "casket/casketlaw03.XtsPlaces", spec := "xtsPlaces", unfollowed := true, recurses := true, apart := false, narrowed := true }
def XtsPlacesUptoSaid : Prop := xtsPlacesUptoRow.holds Try.pinned (OpenSpec.upto xtsPlacesSpec)

/-- 'casketlaw03.XtsTweaks', WHERE WHAT IT READS IS OF BULK AT MOST 1048576: true; the input reads as it did. -/
def xtsTweaksUptoRow : OpenClaim := { program := "ytkoodgfadedeoaa", sum := "7bbcaf67928447cf0d62abb699e3c9cc70157e52a909cc2fab6b78a60de649ef", func := "casket/casketlaw03.XtsTweaks", spec := "xtsTweaks", unfollowed := true, recurses := true, apart := false, narrowed := true }
def XtsTweaksUptoSaid : Prop := xtsTweaksUptoRow.holds Try.pinned (OpenSpec.upto xtsTweaksSpec)

end Rows
end Go.Proofs.Ytkoodgfadedeoaa
