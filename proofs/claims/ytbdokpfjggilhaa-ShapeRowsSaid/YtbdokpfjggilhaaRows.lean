/-
  No cell of these rows narrows 'for every input' (looked for: loops, veiled, ifaces, maps, wideKeys, modest, calm, conditions, laid).
  DERIVED. THE GIVEN ROWS OF THIS SEAT. 7 by the template 'for every input the law returns true; each argument reads behind the call as it read before'; 0 by the template 'total and deterministic' (their statements: YtbdokpfjggilhaaTotals.lean).
  GIVEN WITH THE SEED: the statements are not yours to turn. If you find one false, say at which input.
  Laid BY PROGRAM, IN A SANDBOX (cutbox-rows.mjs): the forced cells as the released guide's own fill.sh prints them over the translation a0dc975171030ac1… (all of the seat's roots in one cut). By AI agents, Wed Nov 11 2026. No macro, syntax, notation, axiom, sorry.
-/
import Derived.Test.YtbdokpfjggilhaaChecked
import GoSem.Claim
import GoSem.ClaimJoined
import GoSem.ClaimMapViews
import Derived.JoinedTies
import Derived.KernelRfl
namespace Go.Proofs.Ytbdokpfjggilhaa
/- THE CELL 'sum', in the pinned program and in every row, IS THE sha256 OF THE DUMP (.gsa) THAT YtbdokpfjggilhaaProg.lean LOADS. Nothing in Lean hashes anything: it is a label: what it is worth is what the hold of that sum in a sandbox is worth. -/
noncomputable def Try.pinned : Pinned := { name := "ytbdokpfjggilhaa", sum := "a0dc975171030ac1ce0cff6a2e38fdadfd9849220ffd539693a16734b6ddbc63", checked := Try.checked }
namespace Rows
def none {H : Type} : Left H := { results := [], args := [] }

/-- 'pedagoguelaw7.ShapeForms': WHATEVER THE INPUT: true; the input reads as it did. -/
def shapeFormsSpec : ChangeSpec := { name := "shapeForms", fn := fun _ => fun
  | [d1, d2, d3, d4, d5, d6, d7, d8] => { results := [.lit (.bool true)], args := [d1, d2, d3, d4, d5, d6, d7, d8] }
  | _ => none }
def shapeFormsRow : OpenClaim := { program := "ytbdokpfjggilhaa", sum := "a0dc975171030ac1ce0cff6a2e38fdadfd9849220ffd539693a16734b6ddbc63", func := "pedagogue/pedagoguelaw7.ShapeForms", spec := "shapeForms", plainKeys := false, apart := false }
def ShapeFormsSaid : Prop := shapeFormsRow.holds Try.pinned (OpenSpec.ofChange shapeFormsSpec)

/-- ITS FALSE NEIGHBOUR: 'it returns false'. Refute it at one input. -/
def shapeFormsWrong : ChangeSpec := { name := "shapeForms", fn := fun _ => fun
  | [d1, d2, d3, d4, d5, d6, d7, d8] => { results := [.lit (.bool false)], args := [d1, d2, d3, d4, d5, d6, d7, d8] }
  | _ => none }
def ShapeFormsWrongFalsely : Prop := shapeFormsRow.holds Try.pinned (OpenSpec.ofChange shapeFormsWrong)

/-- 'pedagoguelaw7.ShapeBack': WHATEVER THE INPUT: true; the input reads as it did. -/
def shapeBackSpec : ChangeSpec := { name := "shapeBack", fn := fun _ => fun
  | [d1, d2] => { results := [.lit (.bool true)], args := [d1, d2] }
  | _ => none }
def shapeBackRow : OpenClaim := { program := "ytbdokpfjggilhaa", sum := "a0dc975171030ac1ce0cff6a2e38fdadfd9849220ffd539693a16734b6ddbc63", func := "pedagogue/pedagoguelaw7.ShapeBack", spec := "shapeBack", plainKeys := false, apart := false }
def ShapeBackSaid : Prop := shapeBackRow.holds Try.pinned (OpenSpec.ofChange shapeBackSpec)

/-- ITS FALSE NEIGHBOUR: 'it returns false'. Refute it at one input. -/
def shapeBackWrong : ChangeSpec := { name := "shapeBack", fn := fun _ => fun
  | [d1, d2] => { results := [.lit (.bool false)], args := [d1, d2] }
  | _ => none }
def ShapeBackWrongFalsely : Prop := shapeBackRow.holds Try.pinned (OpenSpec.ofChange shapeBackWrong)

/-- 'pedagoguelaw7.ShapeOut': WHATEVER THE INPUT: true; the input reads as it did. -/
def shapeOutSpec : ChangeSpec := { name := "shapeOut", fn := fun _ => fun
  | [d1, d2, d3, d4] => { results := [.lit (.bool true)], args := [d1, d2, d3, d4] }
  | _ => none }
def shapeOutRow : OpenClaim := { program := "ytbdokpfjggilhaa", sum := "a0dc975171030ac1ce0cff6a2e38fdadfd9849220ffd539693a16734b6ddbc63", func := "pedagogue/pedagoguelaw7.ShapeOut", spec := "shapeOut", plainKeys := false, apart := false }
def ShapeOutSaid : Prop := shapeOutRow.holds Try.pinned (OpenSpec.ofChange shapeOutSpec)

/-- ITS FALSE NEIGHBOUR: 'it returns false'. Refute it at one input. -/
def shapeOutWrong : ChangeSpec := { name := "shapeOut", fn := fun _ => fun
  | [d1, d2, d3, d4] => { results := [.lit (.bool false)], args := [d1, d2, d3, d4] }
  | _ => none }
def ShapeOutWrongFalsely : Prop := shapeOutRow.holds Try.pinned (OpenSpec.ofChange shapeOutWrong)

/-- 'pedagoguelaw7.ShapeRows': WHATEVER THE INPUT: true; the input reads as it did. -/
def shapeRowsSpec : ChangeSpec := { name := "shapeRows", fn := fun _ => fun
  | [d1, d2, d3] => { results := [.lit (.bool true)], args := [d1, d2, d3] }
  | _ => none }
def shapeRowsRow : OpenClaim := { program := "ytbdokpfjggilhaa", sum := "a0dc975171030ac1ce0cff6a2e38fdadfd9849220ffd539693a16734b6ddbc63", func := "pedagogue/pedagoguelaw7.ShapeRows", spec := "shapeRows", plainKeys := false, apart := false }
def ShapeRowsSaid : Prop := shapeRowsRow.holds Try.pinned (OpenSpec.ofChange shapeRowsSpec)

/-- ITS FALSE NEIGHBOUR: 'it returns false'. Refute it at one input. -/
def shapeRowsWrong : ChangeSpec := { name := "shapeRows", fn := fun _ => fun
  | [d1, d2, d3] => { results := [.lit (.bool false)], args := [d1, d2, d3] }
  | _ => none }
def ShapeRowsWrongFalsely : Prop := shapeRowsRow.holds Try.pinned (OpenSpec.ofChange shapeRowsWrong)

/-- 'pedagoguelaw9.PlaceTo': WHATEVER THE INPUT: true; the input reads as it did. -/
def placeToSpec : ChangeSpec := { name := "placeTo", fn := fun _ => fun
  | [d1, d2, d3, d4, d5, d6] => { results := [.lit (.bool true)], args := [d1, d2, d3, d4, d5, d6] }
  | _ => none }
def placeToRow : OpenClaim := { program := "ytbdokpfjggilhaa", sum := "a0dc975171030ac1ce0cff6a2e38fdadfd9849220ffd539693a16734b6ddbc63", func := "pedagogue/pedagoguelaw9.PlaceTo", spec := "placeTo", plainKeys := false, apart := false }
def PlaceToSaid : Prop := placeToRow.holds Try.pinned (OpenSpec.ofChange placeToSpec)

/-- ITS FALSE NEIGHBOUR: 'it returns false'. Refute it at one input. -/
def placeToWrong : ChangeSpec := { name := "placeTo", fn := fun _ => fun
  | [d1, d2, d3, d4, d5, d6] => { results := [.lit (.bool false)], args := [d1, d2, d3, d4, d5, d6] }
  | _ => none }
def PlaceToWrongFalsely : Prop := placeToRow.holds Try.pinned (OpenSpec.ofChange placeToWrong)

/-- 'pedagoguelaw9.PlaceBoth': WHATEVER THE INPUT: true; the input reads as it did. -/
def placeBothSpec : ChangeSpec := { name := "placeBoth", fn := fun _ => fun
  | [d1, d2, d3, d4, d5] => { results := [.lit (.bool true)], args := [d1, d2, d3, d4, d5] }
  | _ => none }
def placeBothRow : OpenClaim := { program := "ytbdokpfjggilhaa", sum := "a0dc975171030ac1ce0cff6a2e38fdadfd9849220ffd539693a16734b6ddbc63", func := "pedagogue/pedagoguelaw9.PlaceBoth", spec := "placeBoth", plainKeys := false, apart := false }
def PlaceBothSaid : Prop := placeBothRow.holds Try.pinned (OpenSpec.ofChange placeBothSpec)

/-- ITS FALSE NEIGHBOUR: 'it returns false'. Refute it at one input. -/
def placeBothWrong : ChangeSpec := { name := "placeBoth", fn := fun _ => fun
  | [d1, d2, d3, d4, d5] => { results := [.lit (.bool false)], args := [d1, d2, d3, d4, d5] }
  | _ => none }
def PlaceBothWrongFalsely : Prop := placeBothRow.holds Try.pinned (OpenSpec.ofChange placeBothWrong)

/-- 'pedagoguelaw9.PlaceTurned': WHATEVER THE INPUT: true; the input reads as it did. -/
def placeTurnedSpec : ChangeSpec := { name := "placeTurned", fn := fun _ => fun
  | [d1, d2, d3, d4, d5, d6, d7] => { results := [.lit (.bool true)], args := [d1, d2, d3, d4, d5, d6, d7] }
  | _ => none }
def placeTurnedRow : OpenClaim := { program := "ytbdokpfjggilhaa", sum := "a0dc975171030ac1ce0cff6a2e38fdadfd9849220ffd539693a16734b6ddbc63", func := "pedagogue/pedagoguelaw9.PlaceTurned", spec := "placeTurned", plainKeys := false, apart := false }
def PlaceTurnedSaid : Prop := placeTurnedRow.holds Try.pinned (OpenSpec.ofChange placeTurnedSpec)

/-- ITS FALSE NEIGHBOUR: 'it returns false'. Refute it at one input. -/
def placeTurnedWrong : ChangeSpec := { name := "placeTurned", fn := fun _ => fun
  | [d1, d2, d3, d4, d5, d6, d7] => { results := [.lit (.bool false)], args := [d1, d2, d3, d4, d5, d6, d7] }
  | _ => none }
def PlaceTurnedWrongFalsely : Prop := placeTurnedRow.holds Try.pinned (OpenSpec.ofChange placeTurnedWrong)

/- THE SECOND FORM. 'bulk': how many values and letters a reading holds, each counted each time it is reached (what is shared counts as often as it is met; a slice's spare places count too). A statement '..UptoSaid' is the law's where the arguments, and the package variables that the reading takes, are together of bulk at most 1048576: NARROWER than '..Said'. Prove '..Said' where nothing that the law and all that it calls make is longer than what came in: it says more and counts as full. Else prove '..UptoSaid'. A law counts once. -/
mutual
def uptoBulk {H : Type} : DataW H → Nat
  | .lit (.string bytes) => bytes.length + 1
  | .lit _ => 1
  | .nil => 1
  | .ptr d => uptoBulk d + 1
  | .slice elems spare => uptoBulkAll elems + uptoBulkAll spare + 1
  | .agg parts => uptoBulkAll parts + 1
  | .iface _ d => uptoBulk d + 1
  | .map entries => uptoBulkEntries entries + 1
  | .held _ => 1
def uptoBulkAll {H : Type} : List (DataW H) → Nat
  | [] => 0
  | d :: r => uptoBulk d + uptoBulkAll r
def uptoBulkEntries {H : Type} : List (Lit × DataW H) → Nat
  | [] => 0
  | x :: r => uptoBulkEntry x + uptoBulkEntries r
def uptoBulkEntry {H : Type} : Lit × DataW H → Nat
  | (.string bytes, d) => bytes.length + uptoBulk d + 1
  | (_, d) => uptoBulk d + 1
 end
def uptoSmall : (H : Type) → List (DataW H) → Bool := fun _ ds => decide (uptoBulkAll ds ≤ 1048576)
def OpenSpec.upto (s : _root_.Go.ChangeSpec) : _root_.Go.OpenSpec := { _root_.Go.OpenSpec.ofChange s with cond := some uptoSmall }

/-- 'pedagoguelaw7.ShapeForms', WHERE WHAT IT READS IS OF BULK AT MOST 1048576: true; the input reads as it did. -/
def shapeFormsUptoRow : OpenClaim := { program := "ytbdokpfjggilhaa", sum := "a0dc975171030ac1ce0cff6a2e38fdadfd9849220ffd539693a16734b6ddbc63", func := "pedagogue/pedagoguelaw7.ShapeForms", spec := "shapeForms", plainKeys := false, apart := false, narrowed := true }
def ShapeFormsUptoSaid : Prop := shapeFormsUptoRow.holds Try.pinned (OpenSpec.upto shapeFormsSpec)

/-- 'pedagoguelaw7.ShapeBack', WHERE WHAT IT READS IS OF BULK AT MOST 1048576: true; the input reads as it did. -/
def shapeBackUptoRow : OpenClaim := { program := "ytbdokpfjggilhaa", sum := "a0dc975171030ac1ce0cff6a2e38fdadfd9849220ffd539693a16734b6ddbc63", func := "pedagogue/pedagoguelaw7.ShapeBack", spec := "shapeBack", plainKeys := false, apart := false, narrowed := true }
def ShapeBackUptoSaid : Prop := shapeBackUptoRow.holds Try.pinned (OpenSpec.upto shapeBackSpec)

/-- 'pedagoguelaw7.ShapeOut', WHERE WHAT IT READS IS OF BULK AT MOST 1048576: true; the input reads as it did. -/
def shapeOutUptoRow : OpenClaim := { program := "ytbdokpfjggilhaa", sum := "a0dc975171030ac1ce0cff6a2e38fdadfd9849220ffd539693a16734b6ddbc63", func := "pedagogue/pedagoguelaw7.ShapeOut", spec := "shapeOut", plainKeys := false, apart := false, narrowed := true }
def ShapeOutUptoSaid : Prop := shapeOutUptoRow.holds Try.pinned (OpenSpec.upto shapeOutSpec)

/-- 'pedagoguelaw7.ShapeRows', WHERE WHAT IT READS IS OF BULK AT MOST 1048576: true; the input reads as it did. -/
def shapeRowsUptoRow : OpenClaim := { program := "ytbdokpfjggilhaa", sum := "a0dc975171030ac1ce0cff6a2e38fdadfd9849220ffd539693a16734b6ddbc63", func := "pedagogue/pedagoguelaw7.ShapeRows", spec := "shapeRows", plainKeys := false, apart := false, narrowed := true }
def ShapeRowsUptoSaid : Prop := shapeRowsUptoRow.holds Try.pinned (OpenSpec.upto shapeRowsSpec)

/-- 'pedagoguelaw9.PlaceTo', WHERE WHAT IT READS IS OF BULK AT MOST 1048576: true; the input reads as it did. -/
def placeToUptoRow : OpenClaim := { program := "ytbdokpfjggilhaa", sum := "a0dc975171030ac1ce0cff6a2e38fdadfd9849220ffd539693a16734b6ddbc63", func := "pedagogue/pedagoguelaw9.PlaceTo", spec := "placeTo", plainKeys := false, apart := false, narrowed := true }
def PlaceToUptoSaid : Prop := placeToUptoRow.holds Try.pinned (OpenSpec.upto placeToSpec)

/-- 'pedagoguelaw9.PlaceBoth', WHERE WHAT IT READS IS OF BULK AT MOST 1048576: true; the input reads as it did. -/
def placeBothUptoRow : OpenClaim := { program := "ytbdokpfjggilhaa", sum := "a0dc975171030ac1ce0cff6a2e38fdadfd9849220ffd539693a16734b6ddbc63", func := "pedagogue/pedagoguelaw9.PlaceBoth", spec := "placeBoth", plainKeys := false, apart := false, narrowed := true }
def PlaceBothUptoSaid : Prop := placeBothUptoRow.holds Try.pinned (OpenSpec.upto placeBothSpec)

/-- 'pedagoguelaw9.PlaceTurned', WHERE WHAT IT READS IS OF BULK AT MOST 1048576: true; the input reads as it did. -/
def placeTurnedUptoRow : OpenClaim := { program := "ytbdokpfjggilhaa", sum := "a0dc975171030ac1ce0cff6a2e38fdadfd9849220ffd539693a16734b6ddbc63", func := "pedagogue/pedagoguelaw9.PlaceTurned", spec := "placeTurned", plainKeys := false, apart := false, narrowed := true }
def PlaceTurnedUptoSaid : Prop := placeTurnedUptoRow.holds Try.pinned (OpenSpec.upto placeTurnedSpec)

end Rows
end Go.Proofs.Ytbdokpfjggilhaa
