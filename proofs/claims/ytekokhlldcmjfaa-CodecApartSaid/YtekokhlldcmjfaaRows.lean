/-
  No cell of these rows narrows 'for every input' (looked for: loops, veiled, ifaces, maps, wideKeys, modest, calm, conditions, laid).
  DERIVED. THE GIVEN ROWS OF THIS SEAT. 11 by the template 'for every input the law returns true; each argument reads behind the call as it read before'; 0 by the template 'total and deterministic' (their statements: YtekokhlldcmjfaaTotals.lean).
  GIVEN WITH THE SEED: the statements are not yours to turn. If you find one false, say at which input.
  Laid BY PROGRAM, IN A SANDBOX (cutbox-rows.mjs): the forced cells as the released guide's own fill.sh prints them over the translation 67ab6c399ff60ba0… (all of the seat's roots in one cut). By AI agents, Wed Nov 11 2026. No macro, syntax, notation, axiom, sorry.
-/
import Derived.Test.YtekokhlldcmjfaaChecked
import GoSem.Claim
import GoSem.ClaimJoined
import GoSem.ClaimMapViews
import Derived.JoinedTies
import Derived.KernelRfl
namespace Go.Proofs.Ytekokhlldcmjfaa
/- THE CELL 'sum', in the pinned program and in every row, IS THE sha256 OF THE DUMP (.gsa) THAT YtekokhlldcmjfaaProg.lean LOADS. Nothing in Lean hashes anything: it is a label: what it is worth is what the hold of that sum in a sandbox is worth. -/
noncomputable def Try.pinned : Pinned := { name := "ytekokhlldcmjfaa", sum := "67ab6c399ff60ba0c019baf6548cd7e76818c1ccfacbad345ae9c06586e67641", checked := Try.checked }
namespace Rows
def none {H : Type} : Left H := { results := [], args := [] }

/-- 'pedagoguelaw21.OptimSteps': WHATEVER THE INPUT: true; the input reads as it did. -/
def optimStepsSpec : ChangeSpec := { name := "optimSteps", fn := fun _ => fun
  | [d1, d2, d3, d4, d5, d6] => { results := [.lit (.bool true)], args := [d1, d2, d3, d4, d5, d6] }
  | _ => none }
def optimStepsRow : OpenClaim := { program := "ytekokhlldcmjfaa", sum := "67ab6c399ff60ba0c019baf6548cd7e76818c1ccfacbad345ae9c06586e67641", func := "pedagogue/pedagoguelaw21.OptimSteps", spec := "optimSteps", unfollowed := true, recurses := true, apart := false }
def OptimStepsSaid : Prop := optimStepsRow.holds Try.pinned (OpenSpec.ofChange optimStepsSpec)

/-- ITS FALSE NEIGHBOUR: 'it returns false'. Refute it at one input. -/
def optimStepsWrong : ChangeSpec := { name := "optimSteps", fn := fun _ => fun
  | [d1, d2, d3, d4, d5, d6] => { results := [.lit (.bool false)], args := [d1, d2, d3, d4, d5, d6] }
  | _ => none }
def OptimStepsWrongFalsely : Prop := optimStepsRow.holds Try.pinned (OpenSpec.ofChange optimStepsWrong)

/-- 'pedagoguelaw21.OptimAll': WHATEVER THE INPUT: true; the input reads as it did. -/
def optimAllSpec : ChangeSpec := { name := "optimAll", fn := fun _ => fun
  | [d1, d2, d3, d4, d5] => { results := [.lit (.bool true)], args := [d1, d2, d3, d4, d5] }
  | _ => none }
def optimAllRow : OpenClaim := { program := "ytekokhlldcmjfaa", sum := "67ab6c399ff60ba0c019baf6548cd7e76818c1ccfacbad345ae9c06586e67641", func := "pedagogue/pedagoguelaw21.OptimAll", spec := "optimAll", unfollowed := true, recurses := true, apart := false }
def OptimAllSaid : Prop := optimAllRow.holds Try.pinned (OpenSpec.ofChange optimAllSpec)

/-- ITS FALSE NEIGHBOUR: 'it returns false'. Refute it at one input. -/
def optimAllWrong : ChangeSpec := { name := "optimAll", fn := fun _ => fun
  | [d1, d2, d3, d4, d5] => { results := [.lit (.bool false)], args := [d1, d2, d3, d4, d5] }
  | _ => none }
def OptimAllWrongFalsely : Prop := optimAllRow.holds Try.pinned (OpenSpec.ofChange optimAllWrong)

/-- 'pedagoguelaw21.OptimStill': WHATEVER THE INPUT: true; the input reads as it did. -/
def optimStillSpec : ChangeSpec := { name := "optimStill", fn := fun _ => fun
  | [d1, d2, d3, d4] => { results := [.lit (.bool true)], args := [d1, d2, d3, d4] }
  | _ => none }
def optimStillRow : OpenClaim := { program := "ytekokhlldcmjfaa", sum := "67ab6c399ff60ba0c019baf6548cd7e76818c1ccfacbad345ae9c06586e67641", func := "pedagogue/pedagoguelaw21.OptimStill", spec := "optimStill", unfollowed := true, recurses := true, apart := false }
def OptimStillSaid : Prop := optimStillRow.holds Try.pinned (OpenSpec.ofChange optimStillSpec)

/-- ITS FALSE NEIGHBOUR: 'it returns false'. Refute it at one input. -/
def optimStillWrong : ChangeSpec := { name := "optimStill", fn := fun _ => fun
  | [d1, d2, d3, d4] => { results := [.lit (.bool false)], args := [d1, d2, d3, d4] }
  | _ => none }
def OptimStillWrongFalsely : Prop := optimStillRow.holds Try.pinned (OpenSpec.ofChange optimStillWrong)

/-- 'pedagoguelaw21.OptimByHand': WHATEVER THE INPUT: true; the input reads as it did. -/
def optimByHandSpec : ChangeSpec := { name := "optimByHand", fn := fun _ => fun
  | [d1, d2, d3, d4, d5] => { results := [.lit (.bool true)], args := [d1, d2, d3, d4, d5] }
  | _ => none }
def optimByHandRow : OpenClaim := { program := "ytekokhlldcmjfaa", sum := "67ab6c399ff60ba0c019baf6548cd7e76818c1ccfacbad345ae9c06586e67641", func := "pedagogue/pedagoguelaw21.OptimByHand", spec := "optimByHand", unfollowed := true, recurses := true, apart := false }
def OptimByHandSaid : Prop := optimByHandRow.holds Try.pinned (OpenSpec.ofChange optimByHandSpec)

/-- ITS FALSE NEIGHBOUR: 'it returns false'. Refute it at one input. -/
def optimByHandWrong : ChangeSpec := { name := "optimByHand", fn := fun _ => fun
  | [d1, d2, d3, d4, d5] => { results := [.lit (.bool false)], args := [d1, d2, d3, d4, d5] }
  | _ => none }
def OptimByHandWrongFalsely : Prop := optimByHandRow.holds Try.pinned (OpenSpec.ofChange optimByHandWrong)

/-- 'pedagoguelaw21.OptimWithin': WHATEVER THE INPUT: true; the input reads as it did. -/
def optimWithinSpec : ChangeSpec := { name := "optimWithin", fn := fun _ => fun
  | [d1, d2, d3, d4, d5, d6] => { results := [.lit (.bool true)], args := [d1, d2, d3, d4, d5, d6] }
  | _ => none }
def optimWithinRow : OpenClaim := { program := "ytekokhlldcmjfaa", sum := "67ab6c399ff60ba0c019baf6548cd7e76818c1ccfacbad345ae9c06586e67641", func := "pedagogue/pedagoguelaw21.OptimWithin", spec := "optimWithin", unfollowed := true, recurses := true, apart := false }
def OptimWithinSaid : Prop := optimWithinRow.holds Try.pinned (OpenSpec.ofChange optimWithinSpec)

/-- ITS FALSE NEIGHBOUR: 'it returns false'. Refute it at one input. -/
def optimWithinWrong : ChangeSpec := { name := "optimWithin", fn := fun _ => fun
  | [d1, d2, d3, d4, d5, d6] => { results := [.lit (.bool false)], args := [d1, d2, d3, d4, d5, d6] }
  | _ => none }
def OptimWithinWrongFalsely : Prop := optimWithinRow.holds Try.pinned (OpenSpec.ofChange optimWithinWrong)

/-- 'pedagoguelaw21.OptimSame': WHATEVER THE INPUT: true; the input reads as it did. -/
def optimSameSpec : ChangeSpec := { name := "optimSame", fn := fun _ => fun
  | [d1, d2, d3, d4, d5, d6, d7] => { results := [.lit (.bool true)], args := [d1, d2, d3, d4, d5, d6, d7] }
  | _ => none }
def optimSameRow : OpenClaim := { program := "ytekokhlldcmjfaa", sum := "67ab6c399ff60ba0c019baf6548cd7e76818c1ccfacbad345ae9c06586e67641", func := "pedagogue/pedagoguelaw21.OptimSame", spec := "optimSame", unfollowed := true, recurses := true, apart := false }
def OptimSameSaid : Prop := optimSameRow.holds Try.pinned (OpenSpec.ofChange optimSameSpec)

/-- ITS FALSE NEIGHBOUR: 'it returns false'. Refute it at one input. -/
def optimSameWrong : ChangeSpec := { name := "optimSame", fn := fun _ => fun
  | [d1, d2, d3, d4, d5, d6, d7] => { results := [.lit (.bool false)], args := [d1, d2, d3, d4, d5, d6, d7] }
  | _ => none }
def OptimSameWrongFalsely : Prop := optimSameRow.holds Try.pinned (OpenSpec.ofChange optimSameWrong)

/-- 'pedagoguelaw24.CodecForms': WHATEVER THE INPUT: true; the input reads as it did. -/
def codecFormsSpec : ChangeSpec := { name := "codecForms", fn := fun _ => fun
  | [d1, d2] => { results := [.lit (.bool true)], args := [d1, d2] }
  | _ => none }
def codecFormsRow : OpenClaim := { program := "ytekokhlldcmjfaa", sum := "67ab6c399ff60ba0c019baf6548cd7e76818c1ccfacbad345ae9c06586e67641", func := "pedagogue/pedagoguelaw24.CodecForms", spec := "codecForms", unfollowed := true, recurses := true, apart := false }
def CodecFormsSaid : Prop := codecFormsRow.holds Try.pinned (OpenSpec.ofChange codecFormsSpec)

/-- ITS FALSE NEIGHBOUR: 'it returns false'. Refute it at one input. -/
def codecFormsWrong : ChangeSpec := { name := "codecForms", fn := fun _ => fun
  | [d1, d2] => { results := [.lit (.bool false)], args := [d1, d2] }
  | _ => none }
def CodecFormsWrongFalsely : Prop := codecFormsRow.holds Try.pinned (OpenSpec.ofChange codecFormsWrong)

/-- 'pedagoguelaw24.CodecDecodes': WHATEVER THE INPUT: true; the input reads as it did. -/
def codecDecodesSpec : ChangeSpec := { name := "codecDecodes", fn := fun _ => fun
  | [d1, d2, d3, d4, d5] => { results := [.lit (.bool true)], args := [d1, d2, d3, d4, d5] }
  | _ => none }
def codecDecodesRow : OpenClaim := { program := "ytekokhlldcmjfaa", sum := "67ab6c399ff60ba0c019baf6548cd7e76818c1ccfacbad345ae9c06586e67641", func := "pedagogue/pedagoguelaw24.CodecDecodes", spec := "codecDecodes", unfollowed := true, recurses := true, apart := false }
def CodecDecodesSaid : Prop := codecDecodesRow.holds Try.pinned (OpenSpec.ofChange codecDecodesSpec)

/-- ITS FALSE NEIGHBOUR: 'it returns false'. Refute it at one input. -/
def codecDecodesWrong : ChangeSpec := { name := "codecDecodes", fn := fun _ => fun
  | [d1, d2, d3, d4, d5] => { results := [.lit (.bool false)], args := [d1, d2, d3, d4, d5] }
  | _ => none }
def CodecDecodesWrongFalsely : Prop := codecDecodesRow.holds Try.pinned (OpenSpec.ofChange codecDecodesWrong)

/-- 'pedagoguelaw24.CodecBack': WHATEVER THE INPUT: true; the input reads as it did. -/
def codecBackSpec : ChangeSpec := { name := "codecBack", fn := fun _ => fun
  | [d1, d2] => { results := [.lit (.bool true)], args := [d1, d2] }
  | _ => none }
def codecBackRow : OpenClaim := { program := "ytekokhlldcmjfaa", sum := "67ab6c399ff60ba0c019baf6548cd7e76818c1ccfacbad345ae9c06586e67641", func := "pedagogue/pedagoguelaw24.CodecBack", spec := "codecBack", unfollowed := true, recurses := true, apart := false }
def CodecBackSaid : Prop := codecBackRow.holds Try.pinned (OpenSpec.ofChange codecBackSpec)

/-- ITS FALSE NEIGHBOUR: 'it returns false'. Refute it at one input. -/
def codecBackWrong : ChangeSpec := { name := "codecBack", fn := fun _ => fun
  | [d1, d2] => { results := [.lit (.bool false)], args := [d1, d2] }
  | _ => none }
def CodecBackWrongFalsely : Prop := codecBackRow.holds Try.pinned (OpenSpec.ofChange codecBackWrong)

/-- 'pedagoguelaw24.CodecApart': WHATEVER THE INPUT: true; the input reads as it did. -/
def codecApartSpec : ChangeSpec := { name := "codecApart", fn := fun _ => fun
  | [d1, d2] => { results := [.lit (.bool true)], args := [d1, d2] }
  | _ => none }
def codecApartRow : OpenClaim := { program := "ytekokhlldcmjfaa", sum := "67ab6c399ff60ba0c019baf6548cd7e76818c1ccfacbad345ae9c06586e67641", func := "pedagogue/pedagoguelaw24.CodecApart", spec := "codecApart", unfollowed := true, recurses := true, apart := false }
def CodecApartSaid : Prop := codecApartRow.holds Try.pinned (OpenSpec.ofChange codecApartSpec)

/-- ITS FALSE NEIGHBOUR: 'it returns false'. Refute it at one input. -/
def codecApartWrong : ChangeSpec := { name := "codecApart", fn := fun _ => fun
  | [d1, d2] => { results := [.lit (.bool false)], args := [d1, d2] }
  | _ => none }
def CodecApartWrongFalsely : Prop := codecApartRow.holds Try.pinned (OpenSpec.ofChange codecApartWrong)

/-- 'pedagoguelaw24.CodecParts': WHATEVER THE INPUT: true; the input reads as it did. -/
def codecPartsSpec : ChangeSpec := { name := "codecParts", fn := fun _ => fun
  | [d1, d2] => { results := [.lit (.bool true)], args := [d1, d2] }
  | _ => none }
def codecPartsRow : OpenClaim := { program := "ytekokhlldcmjfaa", sum := "67ab6c399ff60ba0c019baf6548cd7e76818c1ccfacbad345ae9c06586e67641", func := "pedagogue/pedagoguelaw24.CodecParts", spec := "codecParts", unfollowed := true, recurses := true, apart := false }
def CodecPartsSaid : Prop := codecPartsRow.holds Try.pinned (OpenSpec.ofChange codecPartsSpec)

/-- ITS FALSE NEIGHBOUR: 'it returns false'. Refute it at one input. -/
def codecPartsWrong : ChangeSpec := { name := "codecParts", fn := fun _ => fun
  | [d1, d2] => { results := [.lit (.bool false)], args := [d1, d2] }
  | _ => none }
def CodecPartsWrongFalsely : Prop := codecPartsRow.holds Try.pinned (OpenSpec.ofChange codecPartsWrong)

/- THE SECOND FORM. 'bulk': how many values and letters a reading holds, each counted each time it is reached (what is shared counts as often as it is met; a slice's spare places count too). A statement '..UptoSaid' is the law's where the arguments, and the package variables that the reading takes, are together of bulk at most 1048576: NARROWER than '..Said'. Prove '..Said' where nothing that the law and all that it calls make is longer than what came in: it says more and counts as full. Else prove '..UptoSaid'. A law counts once. -/
mutual
def uptoBulk {H : Type} : DataW H → Nat
  | .lit (.string bytes) => bytes.length + 1
  | .lit _ => 1
  | .nil => 1
  | .ptr d => uptoBulk d + 1
  | .slice elems spare => uptoBulkAll elems + uptoBulkAll spare + 1
  | .agg parts => uptoBulkAll parts + 1
  | .iface _ d => uptoBulk d + 1
  | .map entries => uptoBulkEntries entries + 1
  | .held _ => 1
def uptoBulkAll {H : Type} : List (DataW H) → Nat
  | [] => 0
  | d :: r => uptoBulk d + uptoBulkAll r
def uptoBulkEntries {H : Type} : List (Lit × DataW H) → Nat
  | [] => 0
  | x :: r => uptoBulkEntry x + uptoBulkEntries r
def uptoBulkEntry {H : Type} : Lit × DataW H → Nat
  | (.string bytes, d) => bytes.length + uptoBulk d + 1
  | (_, d) => uptoBulk d + 1
 end
def uptoSmall : (H : Type) → List (DataW H) → Bool := fun _ ds => decide (uptoBulkAll ds ≤ 1048576)
def OpenSpec.upto (s : _root_.Go.ChangeSpec) : _root_.Go.OpenSpec := { _root_.Go.OpenSpec.ofChange s with cond := some uptoSmall }

/-- 'pedagoguelaw21.OptimSteps', WHERE WHAT IT READS IS OF BULK AT MOST 1048576: true; the input reads as it did. -/
def optimStepsUptoRow : OpenClaim := { program := "ytekokhlldcmjfaa", sum := "67ab6c399ff60ba0c019baf6548cd7e76818c1ccfacbad345ae9c06586e67641", func := "pedagogue/pedagoguelaw21.OptimSteps", spec := "optimSteps", unfollowed := true, recurses := true, apart := false, narrowed := true }
def OptimStepsUptoSaid : Prop := optimStepsUptoRow.holds Try.pinned (OpenSpec.upto optimStepsSpec)

/-- 'pedagoguelaw21.OptimAll', WHERE WHAT IT READS IS OF BULK AT MOST 1048576: true; the input reads as it did. -/
def optimAllUptoRow : OpenClaim := { program := "ytekokhlldcmjfaa", sum := "67ab6c399ff60ba0c019baf6548cd7e76818c1ccfacbad345ae9c06586e67641", func := "pedagogue/pedagoguelaw21.OptimAll", spec := "optimAll", unfollowed := true, recurses := true, apart := false, narrowed := true }
def OptimAllUptoSaid : Prop := optimAllUptoRow.holds Try.pinned (OpenSpec.upto optimAllSpec)

/-- 'pedagoguelaw21.OptimStill', WHERE WHAT IT READS IS OF BULK AT MOST 1048576: true; the input reads as it did. -/
def optimStillUptoRow : OpenClaim := { program := "ytekokhlldcmjfaa", sum := "67ab6c399ff60ba0c019baf6548cd7e76818c1ccfacbad345ae9c06586e67641", func := "pedagogue/pedagoguelaw21.OptimStill", spec := "optimStill", unfollowed := true, recurses := true, apart := false, narrowed := true }
def OptimStillUptoSaid : Prop := optimStillUptoRow.holds Try.pinned (OpenSpec.upto optimStillSpec)

/-- 'pedagoguelaw21.OptimByHand', WHERE WHAT IT READS IS OF BULK AT MOST 1048576: true; the input reads as it did. -/
def optimByHandUptoRow : OpenClaim := { program := "ytekokhlldcmjfaa", sum := "67ab6c399ff60ba0c019baf6548cd7e76818c1ccfacbad345ae9c06586e67641", func := "pedagogue/pedagoguelaw21.OptimByHand", spec := "optimByHand", unfollowed := true, recurses := true, apart := false, narrowed := true }
def OptimByHandUptoSaid : Prop := optimByHandUptoRow.holds Try.pinned (OpenSpec.upto optimByHandSpec)

/-- 'pedagoguelaw21.OptimWithin', WHERE WHAT IT READS IS OF BULK AT MOST 1048576: true; the input reads as it did. -/
def optimWithinUptoRow : OpenClaim := { program := "ytekokhlldcmjfaa", sum := "67ab6c399ff60ba0c019baf6548cd7e76818c1ccfacbad345ae9c06586e67641", func := "pedagogue/pedagoguelaw21.OptimWithin", spec := "optimWithin", unfollowed := true, recurses := true, apart := false, narrowed := true }
def OptimWithinUptoSaid : Prop := optimWithinUptoRow.holds Try.pinned (OpenSpec.upto optimWithinSpec)

/-- 'pedagoguelaw21.OptimSame', WHERE WHAT IT READS IS OF BULK AT MOST 1048576: true; the input reads as it did. -/
def optimSameUptoRow : OpenClaim := { program := "ytekokhlldcmjfaa", sum := "67ab6c399ff60ba0c019baf6548cd7e76818c1ccfacbad345ae9c06586e67641", func := "pedagogue/pedagoguelaw21.OptimSame", spec := "optimSame", unfollowed := true, recurses := true, apart := false, narrowed := true }
def OptimSameUptoSaid : Prop := optimSameUptoRow.holds Try.pinned (OpenSpec.upto optimSameSpec)

/-- 'pedagoguelaw24.CodecForms', WHERE WHAT IT READS IS OF BULK AT MOST 1048576: true; the input reads as it did. -/
def codecFormsUptoRow : OpenClaim := { program := "ytekokhlldcmjfaa", sum := "67ab6c399ff60ba0c019baf6548cd7e76818c1ccfacbad345ae9c06586e67641", func := "pedagogue/pedagoguelaw24.CodecForms", spec := "codecForms", unfollowed := true, recurses := true, apart := false, narrowed := true }
def CodecFormsUptoSaid : Prop := codecFormsUptoRow.holds Try.pinned (OpenSpec.upto codecFormsSpec)

/-- 'pedagoguelaw24.CodecDecodes', WHERE WHAT IT READS IS OF BULK AT MOST 1048576: true; the input reads as it did. -/
def codecDecodesUptoRow : OpenClaim := { program := "ytekokhlldcmjfaa", sum := "67ab6c399ff60ba0c019baf6548cd7e76818c1ccfacbad345ae9c06586e67641", func := "pedagogue/pedagoguelaw24.CodecDecodes", spec := "codecDecodes", unfollowed := true, recurses := true, apart := false, narrowed := true }
def CodecDecodesUptoSaid : Prop := codecDecodesUptoRow.holds Try.pinned (OpenSpec.upto codecDecodesSpec)

/-- 'pedagoguelaw24.CodecBack', WHERE WHAT IT READS IS OF BULK AT MOST 1048576: true; the input reads as it did. -/
def codecBackUptoRow : OpenClaim := { program := "ytekokhlldcmjfaa", sum := "67ab6c399ff60ba0c019baf6548cd7e76818c1ccfacbad345ae9c06586e67641", func := "pedagogue/pedagoguelaw24.CodecBack", spec := "codecBack", unfollowed := true, recurses := true, apart := false, narrowed := true }
def CodecBackUptoSaid : Prop := codecBackUptoRow.holds Try.pinned (OpenSpec.upto codecBackSpec)

/-- 'pedagoguelaw24.CodecApart', WHERE WHAT IT READS IS OF BULK AT MOST 1048576: true; the input reads as it did. -/
def codecApartUptoRow : OpenClaim := { program := "ytekokhlldcmjfaa", sum := "67ab6c399ff60ba0c019baf6548cd7e76818c1ccfacbad345ae9c06586e67641", func := "pedagogue/pedagoguelaw24.CodecApart", spec := "codecApart", unfollowed := true, recurses := true, apart := false, narrowed := true }
def CodecApartUptoSaid : Prop := codecApartUptoRow.holds Try.pinned (OpenSpec.upto codecApartSpec)

/-- 'pedagoguelaw24.CodecParts', WHERE WHAT IT READS IS OF BULK AT MOST 1048576: true; the input reads as it did. -/
def codecPartsUptoRow : OpenClaim := { program := "ytekokhlldcmjfaa", sum := "67ab6c399ff60ba0c019baf6548cd7e76818c1ccfacbad345ae9c06586e67641", func := "pedagogue/pedagoguelaw24.CodecParts", spec := "codecParts", unfollowed := true, recurses := true, apart := false, narrowed := true }
def CodecPartsUptoSaid : Prop := codecPartsUptoRow.holds Try.pinned (OpenSpec.upto codecPartsSpec)

end Rows
end Go.Proofs.Ytekokhlldcmjfaa
