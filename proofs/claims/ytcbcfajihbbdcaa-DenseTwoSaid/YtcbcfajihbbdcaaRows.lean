/-
  No cell of these rows narrows 'for every input' (looked for: loops, veiled, ifaces, maps, wideKeys, modest, calm, conditions, laid).
  DERIVED. THE GIVEN ROWS OF THIS SEAT. 11 by the template 'for every input the law returns true; each argument reads behind the call as it read before'; 0 by the template 'total and deterministic' (their statements: YtcbcfajihbbdcaaTotals.lean).
  GIVEN WITH THE SEED: the statements are not yours to turn. If you find one false, say at which input.
  Laid BY PROGRAM, IN A SANDBOX (cutbox-rows.mjs): the forced cells as the released guide's own fill.sh prints them over the translation ad215377f5643487… (all of the seat's roots in one cut). By AI agents, Wed Nov 11 2026. No macro, syntax, notation, axiom, sorry.
-/
import Derived.Test.YtcbcfajihbbdcaaChecked
import GoSem.Claim
import GoSem.ClaimJoined
import GoSem.ClaimMapViews
import Derived.JoinedTies
import Derived.KernelRfl
namespace Go.Proofs.Ytcbcfajihbbdcaa
/- THE CELL 'sum', in the pinned program and in every row, IS THE sha256 OF THE DUMP (.gsa) THAT YtcbcfajihbbdcaaProg.lean LOADS. Nothing in Lean hashes anything: it is a label: what it is worth is what the hold of that sum in a sandbox is worth. -/
noncomputable def Try.pinned : Pinned := { name := "ytcbcfajihbbdcaa", sum := "ad215377f564348702c7896c44a165b83e19408050e160178835690fcfaf5965", checked := Try.checked }
namespace Rows
def none {H : Type} : Left H := { results := [], args := [] }

/-- 'pedagoguelaw8.TensorSmall': WHATEVER THE INPUT: true; the input reads as it did. -/
def tensorSmallSpec : ChangeSpec := { name := "tensorSmall", fn := fun _ => fun
  | [d1, d2, d3, d4] => { results := [.lit (.bool true)], args := [d1, d2, d3, d4] }
  | _ => none }
def tensorSmallRow : OpenClaim := { program := "ytcbcfajihbbdcaa", sum := "ad215377f564348702c7896c44a165b83e19408050e160178835690fcfaf5965", func := "pedagogue/pedagoguelaw8.TensorSmall", spec := "tensorSmall", apart := false }
def TensorSmallSaid : Prop := tensorSmallRow.holds Try.pinned (OpenSpec.ofChange tensorSmallSpec)

/-- ITS FALSE NEIGHBOUR: 'it returns false'. Refute it at one input. -/
def tensorSmallWrong : ChangeSpec := { name := "tensorSmall", fn := fun _ => fun
  | [d1, d2, d3, d4] => { results := [.lit (.bool false)], args := [d1, d2, d3, d4] }
  | _ => none }
def TensorSmallWrongFalsely : Prop := tensorSmallRow.holds Try.pinned (OpenSpec.ofChange tensorSmallWrong)

/-- 'pedagoguelaw8.TensorChance': WHATEVER THE INPUT: true; the input reads as it did. -/
def tensorChanceSpec : ChangeSpec := { name := "tensorChance", fn := fun _ => fun
  | [d1, d2, d3, d4, d5] => { results := [.lit (.bool true)], args := [d1, d2, d3, d4, d5] }
  | _ => none }
def tensorChanceRow : OpenClaim := { program := "ytcbcfajihbbdcaa", sum := "ad215377f564348702c7896c44a165b83e19408050e160178835690fcfaf5965", func := "pedagogue/pedagoguelaw8.TensorChance", spec := "tensorChance", apart := false }
def TensorChanceSaid : Prop := tensorChanceRow.holds Try.pinned (OpenSpec.ofChange tensorChanceSpec)

/-- ITS FALSE NEIGHBOUR: 'it returns false'. Refute it at one input. -/
def tensorChanceWrong : ChangeSpec := { name := "tensorChance", fn := fun _ => fun
  | [d1, d2, d3, d4, d5] => { results := [.lit (.bool false)], args := [d1, d2, d3, d4, d5] }
  | _ => none }
def TensorChanceWrongFalsely : Prop := tensorChanceRow.holds Try.pinned (OpenSpec.ofChange tensorChanceWrong)

/-- 'pedagoguelaw8.TensorTwice': WHATEVER THE INPUT: true; the input reads as it did. -/
def tensorTwiceSpec : ChangeSpec := { name := "tensorTwice", fn := fun _ => fun
  | [d1, d2, d3] => { results := [.lit (.bool true)], args := [d1, d2, d3] }
  | _ => none }
def tensorTwiceRow : OpenClaim := { program := "ytcbcfajihbbdcaa", sum := "ad215377f564348702c7896c44a165b83e19408050e160178835690fcfaf5965", func := "pedagogue/pedagoguelaw8.TensorTwice", spec := "tensorTwice", apart := false }
def TensorTwiceSaid : Prop := tensorTwiceRow.holds Try.pinned (OpenSpec.ofChange tensorTwiceSpec)

/-- ITS FALSE NEIGHBOUR: 'it returns false'. Refute it at one input. -/
def tensorTwiceWrong : ChangeSpec := { name := "tensorTwice", fn := fun _ => fun
  | [d1, d2, d3] => { results := [.lit (.bool false)], args := [d1, d2, d3] }
  | _ => none }
def TensorTwiceWrongFalsely : Prop := tensorTwiceRow.holds Try.pinned (OpenSpec.ofChange tensorTwiceWrong)

/-- 'pedagoguelaw8.TensorZero': WHATEVER THE INPUT: true; the input reads as it did. -/
def tensorZeroSpec : ChangeSpec := { name := "tensorZero", fn := fun _ => fun
  | [d1, d2, d3] => { results := [.lit (.bool true)], args := [d1, d2, d3] }
  | _ => none }
def tensorZeroRow : OpenClaim := { program := "ytcbcfajihbbdcaa", sum := "ad215377f564348702c7896c44a165b83e19408050e160178835690fcfaf5965", func := "pedagogue/pedagoguelaw8.TensorZero", spec := "tensorZero", apart := false }
def TensorZeroSaid : Prop := tensorZeroRow.holds Try.pinned (OpenSpec.ofChange tensorZeroSpec)

/-- ITS FALSE NEIGHBOUR: 'it returns false'. Refute it at one input. -/
def tensorZeroWrong : ChangeSpec := { name := "tensorZero", fn := fun _ => fun
  | [d1, d2, d3] => { results := [.lit (.bool false)], args := [d1, d2, d3] }
  | _ => none }
def TensorZeroWrongFalsely : Prop := tensorZeroRow.holds Try.pinned (OpenSpec.ofChange tensorZeroWrong)

/-- 'pedagoguelaw10.DenseForms': WHATEVER THE INPUT: true; the input reads as it did. -/
def denseFormsSpec : ChangeSpec := { name := "denseForms", fn := fun _ => fun
  | [d1, d2, d3, d4, d5] => { results := [.lit (.bool true)], args := [d1, d2, d3, d4, d5] }
  | _ => none }
def denseFormsRow : OpenClaim := { program := "ytcbcfajihbbdcaa", sum := "ad215377f564348702c7896c44a165b83e19408050e160178835690fcfaf5965", func := "pedagogue/pedagoguelaw10.DenseForms", spec := "denseForms", apart := false }
def DenseFormsSaid : Prop := denseFormsRow.holds Try.pinned (OpenSpec.ofChange denseFormsSpec)

/-- ITS FALSE NEIGHBOUR: 'it returns false'. Refute it at one input. -/
def denseFormsWrong : ChangeSpec := { name := "denseForms", fn := fun _ => fun
  | [d1, d2, d3, d4, d5] => { results := [.lit (.bool false)], args := [d1, d2, d3, d4, d5] }
  | _ => none }
def DenseFormsWrongFalsely : Prop := denseFormsRow.holds Try.pinned (OpenSpec.ofChange denseFormsWrong)

/-- 'pedagoguelaw10.DenseTwo': WHATEVER THE INPUT: true; the input reads as it did. -/
def denseTwoSpec : ChangeSpec := { name := "denseTwo", fn := fun _ => fun
  | [d1, d2, d3, d4, d5, d6] => { results := [.lit (.bool true)], args := [d1, d2, d3, d4, d5, d6] }
  | _ => none }
def denseTwoRow : OpenClaim := { program := "ytcbcfajihbbdcaa", sum := "ad215377f564348702c7896c44a165b83e19408050e160178835690fcfaf5965", func := "pedagogue/pedagoguelaw10.DenseTwo", spec := "denseTwo", apart := false }
def DenseTwoSaid : Prop := denseTwoRow.holds Try.pinned (OpenSpec.ofChange denseTwoSpec)

/-- ITS FALSE NEIGHBOUR: 'it returns false'. Refute it at one input. -/
def denseTwoWrong : ChangeSpec := { name := "denseTwo", fn := fun _ => fun
  | [d1, d2, d3, d4, d5, d6] => { results := [.lit (.bool false)], args := [d1, d2, d3, d4, d5, d6] }
  | _ => none }
def DenseTwoWrongFalsely : Prop := denseTwoRow.holds Try.pinned (OpenSpec.ofChange denseTwoWrong)

/-- 'pedagoguelaw10.DenseSlope': WHATEVER THE INPUT: true; the input reads as it did. -/
def denseSlopeSpec : ChangeSpec := { name := "denseSlope", fn := fun _ => fun
  | [d1, d2, d3, d4, d5, d6, d7, d8] => { results := [.lit (.bool true)], args := [d1, d2, d3, d4, d5, d6, d7, d8] }
  | _ => none }
def denseSlopeRow : OpenClaim := { program := "ytcbcfajihbbdcaa", sum := "ad215377f564348702c7896c44a165b83e19408050e160178835690fcfaf5965", func := "pedagogue/pedagoguelaw10.DenseSlope", spec := "denseSlope", apart := false }
def DenseSlopeSaid : Prop := denseSlopeRow.holds Try.pinned (OpenSpec.ofChange denseSlopeSpec)

/-- ITS FALSE NEIGHBOUR: 'it returns false'. Refute it at one input. -/
def denseSlopeWrong : ChangeSpec := { name := "denseSlope", fn := fun _ => fun
  | [d1, d2, d3, d4, d5, d6, d7, d8] => { results := [.lit (.bool false)], args := [d1, d2, d3, d4, d5, d6, d7, d8] }
  | _ => none }
def DenseSlopeWrongFalsely : Prop := denseSlopeRow.holds Try.pinned (OpenSpec.ofChange denseSlopeWrong)

/-- 'pedagoguelaw10.DenseBounds': WHATEVER THE INPUT: true; the input reads as it did. -/
def denseBoundsSpec : ChangeSpec := { name := "denseBounds", fn := fun _ => fun
  | [d1, d2, d3, d4, d5] => { results := [.lit (.bool true)], args := [d1, d2, d3, d4, d5] }
  | _ => none }
def denseBoundsRow : OpenClaim := { program := "ytcbcfajihbbdcaa", sum := "ad215377f564348702c7896c44a165b83e19408050e160178835690fcfaf5965", func := "pedagogue/pedagoguelaw10.DenseBounds", spec := "denseBounds", apart := false }
def DenseBoundsSaid : Prop := denseBoundsRow.holds Try.pinned (OpenSpec.ofChange denseBoundsSpec)

/-- ITS FALSE NEIGHBOUR: 'it returns false'. Refute it at one input. -/
def denseBoundsWrong : ChangeSpec := { name := "denseBounds", fn := fun _ => fun
  | [d1, d2, d3, d4, d5] => { results := [.lit (.bool false)], args := [d1, d2, d3, d4, d5] }
  | _ => none }
def DenseBoundsWrongFalsely : Prop := denseBoundsRow.holds Try.pinned (OpenSpec.ofChange denseBoundsWrong)

/-- 'pedagoguelaw10.DenseNothing': WHATEVER THE INPUT: true; the input reads as it did. -/
def denseNothingSpec : ChangeSpec := { name := "denseNothing", fn := fun _ => fun
  | [d1, d2, d3, d4, d5, d6] => { results := [.lit (.bool true)], args := [d1, d2, d3, d4, d5, d6] }
  | _ => none }
def denseNothingRow : OpenClaim := { program := "ytcbcfajihbbdcaa", sum := "ad215377f564348702c7896c44a165b83e19408050e160178835690fcfaf5965", func := "pedagogue/pedagoguelaw10.DenseNothing", spec := "denseNothing", apart := false }
def DenseNothingSaid : Prop := denseNothingRow.holds Try.pinned (OpenSpec.ofChange denseNothingSpec)

/-- ITS FALSE NEIGHBOUR: 'it returns false'. Refute it at one input. -/
def denseNothingWrong : ChangeSpec := { name := "denseNothing", fn := fun _ => fun
  | [d1, d2, d3, d4, d5, d6] => { results := [.lit (.bool false)], args := [d1, d2, d3, d4, d5, d6] }
  | _ => none }
def DenseNothingWrongFalsely : Prop := denseNothingRow.holds Try.pinned (OpenSpec.ofChange denseNothingWrong)

/-- 'pedagoguelaw10.DenseSums': WHATEVER THE INPUT: true; the input reads as it did. -/
def denseSumsSpec : ChangeSpec := { name := "denseSums", fn := fun _ => fun
  | [d1, d2, d3, d4, d5] => { results := [.lit (.bool true)], args := [d1, d2, d3, d4, d5] }
  | _ => none }
def denseSumsRow : OpenClaim := { program := "ytcbcfajihbbdcaa", sum := "ad215377f564348702c7896c44a165b83e19408050e160178835690fcfaf5965", func := "pedagogue/pedagoguelaw10.DenseSums", spec := "denseSums", apart := false }
def DenseSumsSaid : Prop := denseSumsRow.holds Try.pinned (OpenSpec.ofChange denseSumsSpec)

/-- ITS FALSE NEIGHBOUR: 'it returns false'. Refute it at one input. -/
def denseSumsWrong : ChangeSpec := { name := "denseSums", fn := fun _ => fun
  | [d1, d2, d3, d4, d5] => { results := [.lit (.bool false)], args := [d1, d2, d3, d4, d5] }
  | _ => none }
def DenseSumsWrongFalsely : Prop := denseSumsRow.holds Try.pinned (OpenSpec.ofChange denseSumsWrong)

/-- 'pedagoguelaw10.DenseExps': WHATEVER THE INPUT: true; the input reads as it did. -/
def denseExpsSpec : ChangeSpec := { name := "denseExps", fn := fun _ => fun
  | [d1, d2, d3, d4, d5] => { results := [.lit (.bool true)], args := [d1, d2, d3, d4, d5] }
  | _ => none }
def denseExpsRow : OpenClaim := { program := "ytcbcfajihbbdcaa", sum := "ad215377f564348702c7896c44a165b83e19408050e160178835690fcfaf5965", func := "pedagogue/pedagoguelaw10.DenseExps", spec := "denseExps", apart := false }
def DenseExpsSaid : Prop := denseExpsRow.holds Try.pinned (OpenSpec.ofChange denseExpsSpec)

/-- ITS FALSE NEIGHBOUR: 'it returns false'. Refute it at one input. -/
def denseExpsWrong : ChangeSpec := { name := "denseExps", fn := fun _ => fun
  | [d1, d2, d3, d4, d5] => { results := [.lit (.bool false)], args := [d1, d2, d3, d4, d5] }
  | _ => none }
def DenseExpsWrongFalsely : Prop := denseExpsRow.holds Try.pinned (OpenSpec.ofChange denseExpsWrong)

/- THE SECOND FORM. 'bulk': how many values and letters a reading holds, each counted each time it is reached (what is shared counts as often as it is met; a slice's spare places count too). A statement '..UptoSaid' is the law's where the arguments, and the package variables that the reading takes, are together of bulk at most 1048576: NARROWER than '..Said'. Prove '..Said' where nothing that the law and all that it calls make is longer than what came in: it says more and counts as full. Else prove '..UptoSaid'. A law counts once. -/
mutual
def uptoBulk {H : Type} : DataW H → Nat
  | .lit (.string bytes) => bytes.length + 1
  | .lit _ => 1
  | .nil => 1
  | .ptr d => uptoBulk d + 1
  | .slice elems spare => uptoBulkAll elems + uptoBulkAll spare + 1
  | .agg parts => uptoBulkAll parts + 1
  | .iface _ d => uptoBulk d + 1
  | .map entries => uptoBulkEntries entries + 1
  | .held _ => 1
def uptoBulkAll {H : Type} : List (DataW H) → Nat
  | [] => 0
  | d :: r => uptoBulk d + uptoBulkAll r
def uptoBulkEntries {H : Type} : List (Lit × DataW H) → Nat
  | [] => 0
  | x :: r => uptoBulkEntry x + uptoBulkEntries r
def uptoBulkEntry {H : Type} : Lit × DataW H → Nat
  | (.string bytes, d) => bytes.length + uptoBulk d + 1
  | (_, d) => uptoBulk d + 1
 end
def uptoSmall : (H : Type) → List (DataW H) → Bool := fun _ ds => decide (uptoBulkAll ds ≤ 1048576)
def OpenSpec.upto (s : _root_.Go.ChangeSpec) : _root_.Go.OpenSpec := { _root_.Go.OpenSpec.ofChange s with cond := some uptoSmall }

/-- 'pedagoguelaw8.TensorSmall', WHERE WHAT IT READS IS OF BULK AT MOST 1048576: true; the input reads as it did. -/
def tensorSmallUptoRow : OpenClaim := { program := "ytcbcfajihbbdcaa", sum := "ad215377f564348702c7896c44a165b83e19408050e160178835690fcfaf5965", func := "pedagogue/pedagoguelaw8.TensorSmall", spec := "tensorSmall", apart := false, narrowed := true }
def TensorSmallUptoSaid : Prop := tensorSmallUptoRow.holds Try.pinned (OpenSpec.upto tensorSmallSpec)

/-- 'pedagoguelaw8.TensorChance', WHERE WHAT IT READS IS OF BULK AT MOST 1048576: true; the input reads as it did. -/
def tensorChanceUptoRow : OpenClaim := { program := "ytcbcfajihbbdcaa", sum := "ad215377f564348702c7896c44a165b83e19408050e160178835690fcfaf5965", func := "pedagogue/pedagoguelaw8.TensorChance", spec := "tensorChance", apart := false, narrowed := true }
def TensorChanceUptoSaid : Prop := tensorChanceUptoRow.holds Try.pinned (OpenSpec.upto tensorChanceSpec)

/-- 'pedagoguelaw8.TensorTwice', WHERE WHAT IT READS IS OF BULK AT MOST 1048576: true; the input reads as it did. -/
def tensorTwiceUptoRow : OpenClaim := { program := "ytcbcfajihbbdcaa", sum := "ad215377f564348702c7896c44a165b83e19408050e160178835690fcfaf5965", func := "pedagogue/pedagoguelaw8.TensorTwice", spec := "tensorTwice", apart := false, narrowed := true }
def TensorTwiceUptoSaid : Prop := tensorTwiceUptoRow.holds Try.pinned (OpenSpec.upto tensorTwiceSpec)

/-- 'pedagoguelaw8.TensorZero', WHERE WHAT IT READS IS OF BULK AT MOST 1048576: true; the input reads as it did. -/
def tensorZeroUptoRow : OpenClaim := { program := "ytcbcfajihbbdcaa", sum := "ad215377f564348702c7896c44a165b83e19408050e160178835690fcfaf5965", func := "pedagogue/pedagoguelaw8.TensorZero", spec := "tensorZero", apart := false, narrowed := true }
def TensorZeroUptoSaid : Prop := tensorZeroUptoRow.holds Try.pinned (OpenSpec.upto tensorZeroSpec)

/-- 'pedagoguelaw10.DenseForms', WHERE WHAT IT READS IS OF BULK AT MOST 1048576: true; the input reads as it did. -/
def denseFormsUptoRow : OpenClaim := { program := "ytcbcfajihbbdcaa", sum := "ad215377f564348702c7896c44a165b83e19408050e160178835690fcfaf5965", func := "pedagogue/pedagoguelaw10.DenseForms", spec := "denseForms", apart := false, narrowed := true }
def DenseFormsUptoSaid : Prop := denseFormsUptoRow.holds Try.pinned (OpenSpec.upto denseFormsSpec)

/-- 'pedagoguelaw10.DenseTwo', WHERE WHAT IT READS IS OF BULK AT MOST 1048576: true; the input reads as it did. -/
def denseTwoUptoRow : OpenClaim := { program := "ytcbcfajihbbdcaa", sum := "ad215377f564348702c7896c44a165b83e19408050e160178835690fcfaf5965", func := "pedagogue/pedagoguelaw10.DenseTwo", spec := "denseTwo", apart := false, narrowed := true }
def DenseTwoUptoSaid : Prop := denseTwoUptoRow.holds Try.pinned (OpenSpec.upto denseTwoSpec)

/-- 'pedagoguelaw10.DenseSlope', WHERE WHAT IT READS IS OF BULK AT MOST 1048576: true; the input reads as it did. -/
def denseSlopeUptoRow : OpenClaim := { program := "ytcbcfajihbbdcaa", sum := "ad215377f564348702c7896c44a165b83e19408050e160178835690fcfaf5965", func := "pedagogue/pedagoguelaw10.DenseSlope", spec := "denseSlope", apart := false, narrowed := true }
def DenseSlopeUptoSaid : Prop := denseSlopeUptoRow.holds Try.pinned (OpenSpec.upto denseSlopeSpec)

/-- 'pedagoguelaw10.DenseBounds', WHERE WHAT IT READS IS OF BULK AT MOST 1048576: true; the input reads as it did. -/
def denseBoundsUptoRow : OpenClaim := { program := "ytcbcfajihbbdcaa", sum := "ad215377f564348702c7896c44a165b83e19408050e160178835690fcfaf5965", func := "pedagogue/pedagoguelaw10.DenseBounds", spec := "denseBounds", apart := false, narrowed := true }
def DenseBoundsUptoSaid : Prop := denseBoundsUptoRow.holds Try.pinned (OpenSpec.upto denseBoundsSpec)

/-- 'pedagoguelaw10.DenseNothing', WHERE WHAT IT READS IS OF BULK AT MOST 1048576: true; the input reads as it did. -/
def denseNothingUptoRow : OpenClaim := { program := "ytcbcfajihbbdcaa", sum := "ad215377f564348702c7896c44a165b83e19408050e160178835690fcfaf5965", func := "pedagogue/pedagoguelaw10.DenseNothing", spec := "denseNothing", apart := false, narrowed := true }
def DenseNothingUptoSaid : Prop := denseNothingUptoRow.holds Try.pinned (OpenSpec.upto denseNothingSpec)

/-- 'pedagoguelaw10.DenseSums', WHERE WHAT IT READS IS OF BULK AT MOST 1048576: true; the input reads as it did. -/
def denseSumsUptoRow : OpenClaim := { program := "ytcbcfajihbbdcaa", sum := "ad215377f564348702c7896c44a165b83e19408050e160178835690fcfaf5965", func := "pedagogue/pedagoguelaw10.DenseSums", spec := "denseSums", apart := false, narrowed := true }
def DenseSumsUptoSaid : Prop := denseSumsUptoRow.holds Try.pinned (OpenSpec.upto denseSumsSpec)

/-- 'pedagoguelaw10.DenseExps', WHERE WHAT IT READS IS OF BULK AT MOST 1048576: true; the input reads as it did. -/
def denseExpsUptoRow : OpenClaim := { program := "ytcbcfajihbbdcaa", sum := "ad215377f564348702c7896c44a165b83e19408050e160178835690fcfaf5965", func := "pedagogue/pedagoguelaw10.DenseExps", spec := "denseExps", apart := false, narrowed := true }
def DenseExpsUptoSaid : Prop := denseExpsUptoRow.holds Try.pinned (OpenSpec.upto denseExpsSpec)

end Rows
end Go.Proofs.Ytcbcfajihbbdcaa
