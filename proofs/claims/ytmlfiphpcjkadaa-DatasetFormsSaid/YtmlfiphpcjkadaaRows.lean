/-
  No cell of these rows narrows 'for every input' (looked for: loops, veiled, ifaces, maps, wideKeys, modest, calm, conditions, laid).
  DERIVED. THE GIVEN ROWS OF THIS SEAT. 9 by the template 'for every input the law returns true; each argument reads behind the call as it read before'; 0 by the template 'total and deterministic' (their statements: YtmlfiphpcjkadaaTotals.lean).
  GIVEN WITH THE SEED: the statements are not yours to turn. If you find one false, say at which input.
  Laid BY PROGRAM, IN A SANDBOX (cutbox-rows.mjs): the forced cells as the released guide's own fill.sh prints them over the translation ba64d573d6ad1a47… (all of the seat's roots in one cut). By AI agents, Wed Nov 11 2026. No macro, syntax, notation, axiom, sorry.
-/
import Derived.Test.YtmlfiphpcjkadaaChecked
import GoSem.Claim
import GoSem.ClaimJoined
import GoSem.ClaimMapViews
import Derived.JoinedTies
import Derived.KernelRfl
namespace Go.Proofs.Ytmlfiphpcjkadaa
/- THE CELL 'sum', in the pinned program and in every row, IS THE sha256 OF THE DUMP (.gsa) THAT YtmlfiphpcjkadaaProg.lean LOADS. Nothing in Lean hashes anything: it is a label: what it is worth is what the hold of that sum in a sandbox is worth. -/
noncomputable def Try.pinned : Pinned := { name := "ytmlfiphpcjkadaa", sum := "ba64d573d6ad1a4757285dd38d3eb61130da415d47f2c275ca88adfcb6b92a72", checked := Try.checked }
namespace Rows
def none {H : Type} : Left H := { results := [], args := [] }

/-- 'pedagoguelaw22.DatasetForms': WHATEVER THE INPUT: true; the input reads as it did. -/
def datasetFormsSpec : ChangeSpec := { name := "datasetForms", fn := fun _ => fun
  | [d1, d2] => { results := [.lit (.bool true)], args := [d1, d2] }
  | _ => none }
def datasetFormsRow : OpenClaim := { program := "ytmlfiphpcjkadaa", sum := "ba64d573d6ad1a4757285dd38d3eb61130da415d47f2c275ca88adfcb6b92a72", func := "pedagogue/pedagoguelaw22.DatasetForms", spec := "datasetForms", unfollowed := true, recurses := true, apart := false }
def DatasetFormsSaid : Prop := datasetFormsRow.holds Try.pinned (OpenSpec.ofChange datasetFormsSpec)

/-- ITS FALSE NEIGHBOUR: 'it returns false'. Refute it at one input. -/
def datasetFormsWrong : ChangeSpec := { name := "datasetForms", fn := fun _ => fun
  | [d1, d2] => { results := [.lit (.bool false)], args := [d1, d2] }
  | _ => none }
def DatasetFormsWrongFalsely : Prop := datasetFormsRow.holds Try.pinned (OpenSpec.ofChange datasetFormsWrong)

/-- 'pedagoguelaw22.DatasetDecodes': WHATEVER THE INPUT: true; the input reads as it did. -/
def datasetDecodesSpec : ChangeSpec := { name := "datasetDecodes", fn := fun _ => fun
  | [d1, d2, d3, d4, d5] => { results := [.lit (.bool true)], args := [d1, d2, d3, d4, d5] }
  | _ => none }
def datasetDecodesRow : OpenClaim := { program := "ytmlfiphpcjkadaa", sum := "ba64d573d6ad1a4757285dd38d3eb61130da415d47f2c275ca88adfcb6b92a72", func := "pedagogue/pedagoguelaw22.DatasetDecodes", spec := "datasetDecodes", apart := false }
def DatasetDecodesSaid : Prop := datasetDecodesRow.holds Try.pinned (OpenSpec.ofChange datasetDecodesSpec)

/-- ITS FALSE NEIGHBOUR: 'it returns false'. Refute it at one input. -/
def datasetDecodesWrong : ChangeSpec := { name := "datasetDecodes", fn := fun _ => fun
  | [d1, d2, d3, d4, d5] => { results := [.lit (.bool false)], args := [d1, d2, d3, d4, d5] }
  | _ => none }
def DatasetDecodesWrongFalsely : Prop := datasetDecodesRow.holds Try.pinned (OpenSpec.ofChange datasetDecodesWrong)

/-- 'pedagoguelaw22.DatasetBack': WHATEVER THE INPUT: true; the input reads as it did. -/
def datasetBackSpec : ChangeSpec := { name := "datasetBack", fn := fun _ => fun
  | [d1, d2] => { results := [.lit (.bool true)], args := [d1, d2] }
  | _ => none }
def datasetBackRow : OpenClaim := { program := "ytmlfiphpcjkadaa", sum := "ba64d573d6ad1a4757285dd38d3eb61130da415d47f2c275ca88adfcb6b92a72", func := "pedagogue/pedagoguelaw22.DatasetBack", spec := "datasetBack", unfollowed := true, recurses := true, apart := false }
def DatasetBackSaid : Prop := datasetBackRow.holds Try.pinned (OpenSpec.ofChange datasetBackSpec)

/-- ITS FALSE NEIGHBOUR: 'it returns false'. Refute it at one input. -/
def datasetBackWrong : ChangeSpec := { name := "datasetBack", fn := fun _ => fun
  | [d1, d2] => { results := [.lit (.bool false)], args := [d1, d2] }
  | _ => none }
def DatasetBackWrongFalsely : Prop := datasetBackRow.holds Try.pinned (OpenSpec.ofChange datasetBackWrong)

/-- 'pedagoguelaw22.DatasetSpoilt': WHATEVER THE INPUT: true; the input reads as it did. -/
def datasetSpoiltSpec : ChangeSpec := { name := "datasetSpoilt", fn := fun _ => fun
  | [d1, d2, d3] => { results := [.lit (.bool true)], args := [d1, d2, d3] }
  | _ => none }
def datasetSpoiltRow : OpenClaim := { program := "ytmlfiphpcjkadaa", sum := "ba64d573d6ad1a4757285dd38d3eb61130da415d47f2c275ca88adfcb6b92a72", func := "pedagogue/pedagoguelaw22.DatasetSpoilt", spec := "datasetSpoilt", unfollowed := true, recurses := true, apart := false }
def DatasetSpoiltSaid : Prop := datasetSpoiltRow.holds Try.pinned (OpenSpec.ofChange datasetSpoiltSpec)

/-- ITS FALSE NEIGHBOUR: 'it returns false'. Refute it at one input. -/
def datasetSpoiltWrong : ChangeSpec := { name := "datasetSpoilt", fn := fun _ => fun
  | [d1, d2, d3] => { results := [.lit (.bool false)], args := [d1, d2, d3] }
  | _ => none }
def DatasetSpoiltWrongFalsely : Prop := datasetSpoiltRow.holds Try.pinned (OpenSpec.ofChange datasetSpoiltWrong)

/-- 'pedagoguelaw22.DatasetLong': WHATEVER THE INPUT: true; the input reads as it did. -/
def datasetLongSpec : ChangeSpec := { name := "datasetLong", fn := fun _ => fun
  | [d] => { results := [.lit (.bool true)], args := [d] }
  | _ => none }
def datasetLongRow : OpenClaim := { program := "ytmlfiphpcjkadaa", sum := "ba64d573d6ad1a4757285dd38d3eb61130da415d47f2c275ca88adfcb6b92a72", func := "pedagogue/pedagoguelaw22.DatasetLong", spec := "datasetLong", apart := false }
def DatasetLongSaid : Prop := datasetLongRow.holds Try.pinned (OpenSpec.ofChange datasetLongSpec)

/-- ITS FALSE NEIGHBOUR: 'it returns false'. Refute it at one input. -/
def datasetLongWrong : ChangeSpec := { name := "datasetLong", fn := fun _ => fun
  | [d] => { results := [.lit (.bool false)], args := [d] }
  | _ => none }
def DatasetLongWrongFalsely : Prop := datasetLongRow.holds Try.pinned (OpenSpec.ofChange datasetLongWrong)

/-- 'pedagoguelaw23.BatchForms': WHATEVER THE INPUT: true; the input reads as it did. -/
def batchFormsSpec : ChangeSpec := { name := "batchForms", fn := fun _ => fun
  | [d1, d2, d3, d4, d5, d6] => { results := [.lit (.bool true)], args := [d1, d2, d3, d4, d5, d6] }
  | _ => none }
def batchFormsRow : OpenClaim := { program := "ytmlfiphpcjkadaa", sum := "ba64d573d6ad1a4757285dd38d3eb61130da415d47f2c275ca88adfcb6b92a72", func := "pedagogue/pedagoguelaw23.BatchForms", spec := "batchForms", unfollowed := true, recurses := true, apart := false }
def BatchFormsSaid : Prop := batchFormsRow.holds Try.pinned (OpenSpec.ofChange batchFormsSpec)

/-- ITS FALSE NEIGHBOUR: 'it returns false'. Refute it at one input. -/
def batchFormsWrong : ChangeSpec := { name := "batchForms", fn := fun _ => fun
  | [d1, d2, d3, d4, d5, d6] => { results := [.lit (.bool false)], args := [d1, d2, d3, d4, d5, d6] }
  | _ => none }
def BatchFormsWrongFalsely : Prop := batchFormsRow.holds Try.pinned (OpenSpec.ofChange batchFormsWrong)

/-- 'pedagoguelaw23.BatchEach': WHATEVER THE INPUT: true; the input reads as it did. -/
def batchEachSpec : ChangeSpec := { name := "batchEach", fn := fun _ => fun
  | [d1, d2, d3, d4] => { results := [.lit (.bool true)], args := [d1, d2, d3, d4] }
  | _ => none }
def batchEachRow : OpenClaim := { program := "ytmlfiphpcjkadaa", sum := "ba64d573d6ad1a4757285dd38d3eb61130da415d47f2c275ca88adfcb6b92a72", func := "pedagogue/pedagoguelaw23.BatchEach", spec := "batchEach", apart := false }
def BatchEachSaid : Prop := batchEachRow.holds Try.pinned (OpenSpec.ofChange batchEachSpec)

/-- ITS FALSE NEIGHBOUR: 'it returns false'. Refute it at one input. -/
def batchEachWrong : ChangeSpec := { name := "batchEach", fn := fun _ => fun
  | [d1, d2, d3, d4] => { results := [.lit (.bool false)], args := [d1, d2, d3, d4] }
  | _ => none }
def BatchEachWrongFalsely : Prop := batchEachRow.holds Try.pinned (OpenSpec.ofChange batchEachWrong)

/-- 'pedagoguelaw23.BatchOrders': WHATEVER THE INPUT: true; the input reads as it did. -/
def batchOrdersSpec : ChangeSpec := { name := "batchOrders", fn := fun _ => fun
  | [d1, d2, d3, d4, d5] => { results := [.lit (.bool true)], args := [d1, d2, d3, d4, d5] }
  | _ => none }
def batchOrdersRow : OpenClaim := { program := "ytmlfiphpcjkadaa", sum := "ba64d573d6ad1a4757285dd38d3eb61130da415d47f2c275ca88adfcb6b92a72", func := "pedagogue/pedagoguelaw23.BatchOrders", spec := "batchOrders", apart := false }
def BatchOrdersSaid : Prop := batchOrdersRow.holds Try.pinned (OpenSpec.ofChange batchOrdersSpec)

/-- ITS FALSE NEIGHBOUR: 'it returns false'. Refute it at one input. -/
def batchOrdersWrong : ChangeSpec := { name := "batchOrders", fn := fun _ => fun
  | [d1, d2, d3, d4, d5] => { results := [.lit (.bool false)], args := [d1, d2, d3, d4, d5] }
  | _ => none }
def BatchOrdersWrongFalsely : Prop := batchOrdersRow.holds Try.pinned (OpenSpec.ofChange batchOrdersWrong)

/-- 'pedagoguelaw23.BatchTakes': WHATEVER THE INPUT: true; the input reads as it did. -/
def batchTakesSpec : ChangeSpec := { name := "batchTakes", fn := fun _ => fun
  | [d1, d2] => { results := [.lit (.bool true)], args := [d1, d2] }
  | _ => none }
def batchTakesRow : OpenClaim := { program := "ytmlfiphpcjkadaa", sum := "ba64d573d6ad1a4757285dd38d3eb61130da415d47f2c275ca88adfcb6b92a72", func := "pedagogue/pedagoguelaw23.BatchTakes", spec := "batchTakes", unfollowed := true, recurses := true, apart := false }
def BatchTakesSaid : Prop := batchTakesRow.holds Try.pinned (OpenSpec.ofChange batchTakesSpec)

/-- ITS FALSE NEIGHBOUR: 'it returns false'. Refute it at one input. -/
def batchTakesWrong : ChangeSpec := { name := "batchTakes", fn := fun _ => fun
  | [d1, d2] => { results := [.lit (.bool false)], args := [d1, d2] }
  | _ => none }
def BatchTakesWrongFalsely : Prop := batchTakesRow.holds Try.pinned (OpenSpec.ofChange batchTakesWrong)

/- THE SECOND FORM. 'bulk': how many values and letters a reading holds, each counted each time it is reached (what is shared counts as often as it is met; a slice's spare places count too). A statement '..UptoSaid' is the law's where the arguments, and the package variables that the reading takes, are together of bulk at most 1048576: NARROWER than '..Said'. Prove '..Said' where nothing that the law and all that it calls make is longer than what came in: it says more and counts as full. Else prove '..UptoSaid'. A law counts once. -/
mutual
def uptoBulk {H : Type} : DataW H → Nat
  | .lit (.string bytes) => bytes.length + 1
  | .lit _ => 1
  | .nil => 1
  | .ptr d => uptoBulk d + 1
  | .slice elems spare => uptoBulkAll elems + uptoBulkAll spare + 1
  | .agg parts => uptoBulkAll parts + 1
  | .iface _ d => uptoBulk d + 1
  | .map entries => uptoBulkEntries entries + 1
  | .held _ => 1
def uptoBulkAll {H : Type} : List (DataW H) → Nat
  | [] => 0
  | d :: r => uptoBulk d + uptoBulkAll r
def uptoBulkEntries {H : Type} : List (Lit × DataW H) → Nat
  | [] => 0
  | x :: r => uptoBulkEntry x + uptoBulkEntries r
def uptoBulkEntry {H : Type} : Lit × DataW H → Nat
  | (.string bytes, d) => bytes.length + uptoBulk d + 1
  | (_, d) => uptoBulk d + 1
 end
def uptoSmall : (H : Type) → List (DataW H) → Bool := fun _ ds => decide (uptoBulkAll ds ≤ 1048576)
def OpenSpec.upto (s : _root_.Go.ChangeSpec) : _root_.Go.OpenSpec := { _root_.Go.OpenSpec.ofChange s with cond := some uptoSmall }

/-- 'pedagoguelaw22.DatasetForms', WHERE WHAT IT READS IS OF BULK AT MOST 1048576: true; the input reads as it did. -/
def datasetFormsUptoRow : OpenClaim := { program := "ytmlfiphpcjkadaa", sum := "ba64d573d6ad1a4757285dd38d3eb61130da415d47f2c275ca88adfcb6b92a72", func := "pedagogue/pedagoguelaw22.DatasetForms", spec := "datasetForms", unfollowed := true, recurses := true, apart := false, narrowed := true }
def DatasetFormsUptoSaid : Prop := datasetFormsUptoRow.holds Try.pinned (OpenSpec.upto datasetFormsSpec)

/-- 'pedagoguelaw22.DatasetDecodes', WHERE WHAT IT READS IS OF BULK AT MOST 1048576: true; the input reads as it did. -/
def datasetDecodesUptoRow : OpenClaim := { program := "ytmlfiphpcjkadaa", sum := "ba64d573d6ad1a4757285dd38d3eb61130da415d47f2c275ca88adfcb6b92a72", func := "pedagogue/pedagoguelaw22.DatasetDecodes", spec := "datasetDecodes", apart := false, narrowed := true }
def DatasetDecodesUptoSaid : Prop := datasetDecodesUptoRow.holds Try.pinned (OpenSpec.upto datasetDecodesSpec)

/-- 'pedagoguelaw22.DatasetBack', WHERE WHAT IT READS IS OF BULK AT MOST 1048576: true; the input reads as it did. -/
def datasetBackUptoRow : OpenClaim := { program := "ytmlfiphpcjkadaa", sum := "ba64d573d6ad1a4757285dd38d3eb61130da415d47f2c275ca88adfcb6b92a72", func := "pedagogue/pedagoguelaw22.DatasetBack", spec := "datasetBack", unfollowed := true, recurses := true, apart := false, narrowed := true }
def DatasetBackUptoSaid : Prop := datasetBackUptoRow.holds Try.pinned (OpenSpec.upto datasetBackSpec)

/-- 'pedagoguelaw22.DatasetSpoilt', WHERE WHAT IT READS IS OF BULK AT MOST 1048576: true; the input reads as it did. -/
def datasetSpoiltUptoRow : OpenClaim := { program := "ytmlfiphpcjkadaa", sum := "ba64d573d6ad1a4757285dd38d3eb61130da415d47f2c275ca88adfcb6b92a72", func := "pedagogue/pedagoguelaw22.DatasetSpoilt", spec := "datasetSpoilt", unfollowed := true, recurses := true, apart := false, narrowed := true }
def DatasetSpoiltUptoSaid : Prop := datasetSpoiltUptoRow.holds Try.pinned (OpenSpec.upto datasetSpoiltSpec)

/-- 'pedagoguelaw22.DatasetLong', WHERE WHAT IT READS IS OF BULK AT MOST 1048576: true; the input reads as it did. -/
def datasetLongUptoRow : OpenClaim := { program := "ytmlfiphpcjkadaa", sum := "ba64d573d6ad1a4757285dd38d3eb61130da415d47f2c275ca88adfcb6b92a72", func := "pedagogue/pedagoguelaw22.DatasetLong", spec := "datasetLong", apart := false, narrowed := true }
def DatasetLongUptoSaid : Prop := datasetLongUptoRow.holds Try.pinned (OpenSpec.upto datasetLongSpec)

/-- 'pedagoguelaw23.BatchForms', WHERE WHAT IT READS IS OF BULK AT MOST 1048576: true; the input reads as it did. -/
def batchFormsUptoRow : OpenClaim := { program := "ytmlfiphpcjkadaa", sum := "ba64d573d6ad1a4757285dd38d3eb61130da415d47f2c275ca88adfcb6b92a72", func := "pedagogue/pedagoguelaw23.BatchForms", spec := "batchForms", unfollowed := true, recurses := true, apart := false, narrowed := true }
def BatchFormsUptoSaid : Prop := batchFormsUptoRow.holds Try.pinned (OpenSpec.upto batchFormsSpec)

/-- 'pedagoguelaw23.BatchEach', WHERE WHAT IT READS IS OF BULK AT MOST 1048576: true; the input reads as it did. -/
def batchEachUptoRow : OpenClaim := { program := "ytmlfiphpcjkadaa", sum := "ba64d573d6ad1a4757285dd38d3eb61130da415d47f2c275ca88adfcb6b92a72", func := "pedagogue/pedagoguelaw23.BatchEach", spec := "batchEach", apart := false, narrowed := true }
def BatchEachUptoSaid : Prop := batchEachUptoRow.holds Try.pinned (OpenSpec.upto batchEachSpec)

/-- 'pedagoguelaw23.BatchOrders', WHERE WHAT IT READS IS OF BULK AT MOST 1048576: true; the input reads as it did. -/
def batchOrdersUptoRow : OpenClaim := { program := "ytmlfiphpcjkadaa", sum := "ba64d573d6ad1a4757285dd38d3eb61130da415d47f2c275ca88adfcb6b92a72", func := "pedagogue/pedagoguelaw23.BatchOrders", spec := "batchOrders", apart := false, narrowed := true }
def BatchOrdersUptoSaid : Prop := batchOrdersUptoRow.holds Try.pinned (OpenSpec.upto batchOrdersSpec)

/-- 'pedagoguelaw23.BatchTakes', WHERE WHAT IT READS IS OF BULK AT MOST 1048576: true; the input reads as it did. -/
def batchTakesUptoRow : OpenClaim := { program := "ytmlfiphpcjkadaa", sum := "ba64d573d6ad1a4757285dd38d3eb61130da415d47f2c275ca88adfcb6b92a72", func := "pedagogue/pedagoguelaw23.BatchTakes", spec := "batchTakes", unfollowed := true, recurses := true, apart := false, narrowed := true }
def BatchTakesUptoSaid : Prop := batchTakesUptoRow.holds Try.pinned (OpenSpec.upto batchTakesSpec)

end Rows
end Go.Proofs.Ytmlfiphpcjkadaa
